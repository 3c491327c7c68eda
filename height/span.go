package height

import (
	"iter"

	"slackwater/api"
	"slackwater/port"
)

// Span tells what At tells of each tick from a on, below b.
func Span(p api.Port, a, b int) ([]api.Off, api.Errno) {
	k, e := keepForSpan(p, a, b)
	if e != api.OK {
		return nil, e
	}
	var heights []api.Off
	for t := a; t < b; t++ {
		heights = append(heights, k.at(t))
	}
	return heights, api.OK
}

// Each goes over the ticks of a span and what At tells of each; over none, if Span is refused.
func Each(p api.Port, a, b int) iter.Seq2[int, api.Off] {
	// No tick of a near port is refused, so that the ticks are worked as they are gone over, from what was kept at the call.
	k, e := keepForSpan(p, a, b)
	if e != api.OK {
		a, b = 0, 0
	}
	return func(yield func(int, api.Off) bool) {
		for t := a; t < b; t++ {
			if !yield(t, k.at(t)) {
				return
			}
		}
	}
}

// keepForSpan looks at a port, then at a span, then at whether the port is near.
func keepForSpan(p api.Port, a, b int) (kept, api.Errno) {
	if f := port.Check(p); f.Err != api.OK {
		return kept{}, f.Err
	}
	if a < 0 || b > api.MaxPower+1 || a > b {
		return kept{}, api.ErrArg
	}
	return keep(p)
}
