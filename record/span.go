package record

import (
	"slackwater/api"
	"slackwater/clock"
)

// Gaps tells a span's gaps, rising: of each its first tick, and how many ticks it has.
func (r *Record) Gaps(a, b int) ([][2]int, api.Errno) {
	l, e := r.Between(a, b)
	if e != api.OK {
		return nil, e
	}
	var gaps [][2]int
	next := a
	for _, s := range l {
		gaps = appendGap(gaps, next, s.Tick)
		next = s.Tick + 1
	}
	return appendGap(gaps, next, b), api.OK
}

// Between tells a span's samples that are ones, by rising tick.
func (r *Record) Between(a, b int) ([]api.Sample, api.Errno) {
	if e := r.lookAt(a, b); e != api.OK {
		return nil, e
	}
	var l []api.Sample
	for t, height := range r.All() {
		if t >= a && t < b {
			l = append(l, api.Sample{Tick: t, Height: height})
		}
	}
	return l, api.OK
}

// lookAt looks at the record, then at a span.
func (r *Record) lookAt(a, b int) api.Errno {
	if !r.made() {
		return api.ErrNil
	}
	// These spans may have any number of ticks, so what the clock finds too long may be.
	if e := clock.Span(a, b); e != api.ErrLong {
		return e
	}
	return api.OK
}

// appendGap adds the gap from a tick on, below another; without ticks between there is none.
func appendGap(gaps [][2]int, from, to int) [][2]int {
	if from >= to {
		return gaps
	}
	return append(gaps, [2]int{from, to - from})
}
