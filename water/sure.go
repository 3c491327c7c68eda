package water

import (
	"slackwater/api"
	"slackwater/height"
)

// Certain tells what floats say of a port's waters.
func Certain(p api.Port, a, b int) (api.Sure, api.Errno) {
	heights, e := height.Span(p, a, b)
	if e != api.OK {
		return api.Sure{}, e
	}
	return Sures(heights, a)
}

// Sures tells what floats say of a list's waters, the first height standing at the tick first.
func Sures(l []api.Off, first int) (api.Sure, api.Errno) {
	if e := checkPlaces(len(l), first); e != api.OK {
		return api.Sure{}, e
	}
	var s api.Sure
ticks:
	for i, h := range l {
		around := neighbours(l, i)
		for _, n := range around {
			if !height.Lower(h, n) && !height.Lower(n, h) {
				s.Doubts = append(s.Doubts, first+i)
				continue ticks
			}
		}
		if len(around) < 2 {
			continue
		}
		// Bounds below 0 make two heights surely lower than each other, so that a tick may be both.
		if height.Lower(around[0], h) && height.Lower(around[1], h) {
			s.Tops = append(s.Tops, first+i)
		}
		if height.Lower(h, around[0]) && height.Lower(h, around[1]) {
			s.Bottoms = append(s.Bottoms, first+i)
		}
	}
	return s, api.OK
}

// neighbours are the heights directly ahead of a place and directly behind it, as far as there are such.
func neighbours(l []api.Off, i int) []api.Off {
	var around []api.Off
	if i > 0 {
		around = append(around, l[i-1])
	}
	if i+1 < len(l) {
		around = append(around, l[i+1])
	}
	return around
}
