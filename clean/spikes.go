package clean

import (
	"math"

	"slackwater/api"
)

// Spikes tells the places of all samples that are one and stand out from those up to width places beside them.
func Spikes(l []api.Sample, width int, limit float64) ([]int, api.Errno) {
	if e := checkSpikes(len(l), width, limit); e != api.OK {
		return nil, e
	}
	var places []int
	for i, s := range l {
		if isOne(s.Height) && standsOut(s.Height, beside(l, i, width), limit) {
			places = append(places, i)
		}
	}
	return places, api.OK
}

func checkSpikes(count, width int, limit float64) api.Errno {
	switch {
	case count > api.MaxRecord:
		return api.ErrLong
	case width < 1 || width > api.MaxAside:
		return api.ErrArg
	case !isOne(limit):
		return api.ErrNumber
	case limit < 0:
		return api.ErrArg
	}
	return api.OK
}

// beside tells the heights at the places up to width ahead and up to width behind a place, no numbers among them.
func beside(l []api.Sample, place, width int) []float64 {
	var heights []float64
	for i := max(place-width, 0); i < min(place+width+1, len(l)); i++ {
		if i != place {
			heights = append(heights, l[i].Height)
		}
	}
	return heights
}

// standsOut holds a height against the median of those beside it. A difference beyond the floats is above every limit.
func standsOut(height float64, others []float64, limit float64) bool {
	median, ok := Median(others)
	return ok && math.Abs(float64(height-median)) > limit
}

// Without tells samples without those at some places, which rise.
func Without(l []api.Sample, places []int) ([]api.Sample, api.Errno) {
	if len(l) > api.MaxRecord || len(places) > api.MaxRecord {
		return nil, api.ErrLong
	}
	if !placesOf(places, len(l)) {
		return nil, api.ErrArg
	}
	var rest []api.Sample
	for i, next := 0, 0; i < len(l); i++ {
		if next < len(places) && places[next] == i {
			next++
			continue
		}
		rest = append(rest, l[i])
	}
	return rest, api.OK
}

// placesOf tells whether all are places of a list of so many, each above the one ahead.
func placesOf(places []int, count int) bool {
	last := -1
	for _, p := range places {
		if p <= last || p >= count {
			return false
		}
		last = p
	}
	return true
}
