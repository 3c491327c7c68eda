package exact

import (
	"iter"

	"slackwater/api"
	"slackwater/port"
	"slackwater/ratio"
)

// Span tells the heights at the ticks from a on, below b.
func Span(p api.Port, a, b int) ([]api.Ratio, api.Errno) {
	if f := port.Check(p); f.Err != api.OK {
		return nil, f.Err
	}
	if a < 0 || b > api.MaxPower+1 || a > b {
		return nil, api.ErrArg
	}
	var heights []api.Ratio
	for t := a; t < b; t++ {
		h, e := heightAt(p, t)
		if e != api.OK {
			return nil, e
		}
		heights = append(heights, h)
	}
	return heights, api.OK
}

// Each goes over the ticks of a span and their heights; over none, if Span is refused.
func Each(p api.Port, a, b int) iter.Seq2[int, api.Ratio] {
	// A late tick that is refused leaves out the early ones, too: so all are made ahead of the first, and once, here, where the port is as it was handed in.
	heights, _ := Span(p, a, b)
	return func(yield func(int, api.Ratio) bool) {
		for i, h := range heights {
			// What is yielded is a copy, so that whoever ranges may write over it.
			if !yield(a+i, copied(h)) {
				return
			}
		}
	}
}

// Ends tells the first tick with the least height and the first with the greatest.
func Ends(p api.Port, a, b int) (low, high int, e api.Errno) {
	heights, e := Span(p, a, b)
	if e != api.OK {
		return 0, 0, e
	}
	if len(heights) == 0 {
		return 0, 0, api.ErrArg
	}
	for i, h := range heights {
		switch {
		case isBelow(h, heights[low]):
			low = i
		case isBelow(heights[high], h):
			high = i
		}
	}
	return a + low, a + high, api.OK
}

// isBelow tells whether one height is below another one; Compare refuses none that Span tells.
func isBelow(a, b api.Ratio) bool {
	order, _ := ratio.Compare(a, b)
	return order < 0
}
