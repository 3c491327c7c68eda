package record

import (
	"iter"
	"slices"

	"slackwater/api"
)

// Len tells how many samples there are that are ones.
func (r *Record) Len() int { return len(r.ticks(true)) }

// Lost tells the ticks of those that are no numbers, rising.
func (r *Record) Lost() []int {
	l := r.ticks(false)
	slices.Sort(l)
	return l
}

// Samples tells those that are ones, by rising tick.
func (r *Record) Samples() []api.Sample {
	ticks := r.ticks(true)
	slices.Sort(ticks)
	var l []api.Sample
	for _, t := range ticks {
		l = append(l, api.Sample{Tick: t, Height: r.heights[t]})
	}
	return l
}

// At tells the height at a tick, and whether a sample there is one.
func (r *Record) At(tick int) (float64, bool) {
	if !r.made() {
		return 0, false
	}
	height, there := r.heights[tick]
	if !there || !isOne(height) {
		return 0, false
	}
	return height, true
}

// All goes over the ticks and heights of the samples that are ones, by rising tick.
func (r *Record) All() iter.Seq2[int, float64] {
	// Told now, as the record may change ahead of the going over, or in it.
	l := r.Samples()
	return func(yield func(int, float64) bool) {
		for _, s := range l {
			if !yield(s.Tick, s.Height) {
				return
			}
		}
	}
}

// ticks tells the ticks of the samples that are ones, or of those that are not, in no order; none of a record that was not made.
func (r *Record) ticks(ones bool) []int {
	if !r.made() {
		return nil
	}
	var l []int
	for t, height := range r.heights {
		if isOne(height) == ones {
			l = append(l, t)
		}
	}
	return l
}
