package clean

import (
	"maps"
	"slices"

	"slackwater/api"
)

// Merge makes one record out of several: at each tick at which a sample is one, the mean of them all.
func Merge(l [][]api.Sample) ([]api.Sample, api.Fault) {
	if f := checkLists(l); f != (api.Fault{}) {
		return nil, f
	}
	heights := heightsByTick(l)
	var merged []api.Sample
	for _, t := range slices.Sorted(maps.Keys(heights)) {
		mean, e := Mean(heights[t])
		if e != api.OK {
			return nil, api.Fault{Err: e, At: -1}
		}
		merged = append(merged, api.Sample{Tick: t, Height: mean})
	}
	// Not ahead of the loop: a mean that is refused goes first.
	if len(merged) > api.MaxRecord {
		return nil, api.Fault{Err: api.ErrLong, At: -1}
	}
	return merged, api.Fault{}
}

// checkLists tells what of the lists is refused, and at which of them.
func checkLists(l [][]api.Sample) api.Fault {
	if len(l) > api.MaxLists {
		return api.Fault{Err: api.ErrLong, At: -1}
	}
	for i, samples := range l {
		if len(samples) > api.MaxRecord {
			return api.Fault{Err: api.ErrLong, At: i}
		}
		if slices.ContainsFunc(samples, beyond) {
			return api.Fault{Err: api.ErrArg, At: i}
		}
	}
	return api.Fault{}
}

// beyond tells whether a sample, one or no number, stands at no tick.
func beyond(s api.Sample) bool { return s.Tick < 0 || s.Tick > api.MaxTick }

// heightsByTick tells the heights of all samples that are one, of all lists, by their tick.
func heightsByTick(l [][]api.Sample) map[int][]float64 {
	heights := map[int][]float64{}
	for _, samples := range l {
		for _, s := range samples {
			if isOne(s.Height) {
				heights[s.Tick] = append(heights[s.Tick], s.Height)
			}
		}
	}
	return heights
}
