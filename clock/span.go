package clock

import (
	"iter"

	"slackwater/api"
)

// Span tells whether the span from a on, below b, may be: OK, ErrArg or ErrLong.
func Span(a, b int) api.Errno {
	switch {
	case a < 0 || b > api.MaxTick+1 || a > b:
		return api.ErrArg
	case b-a > api.MaxSpan:
		return api.ErrLong
	}
	return api.OK
}

// Ticks goes over the ticks of a span, rising; over none, if Span refuses it.
func Ticks(a, b int) iter.Seq[int] {
	if Span(a, b) != api.OK {
		b = a
	}
	return func(yield func(int) bool) {
		for t := a; t < b; t++ {
			if !yield(t) {
				return
			}
		}
	}
}

// Days tells the days, rising, whose ticks all lie in a span; none, if Span refuses it.
func Days(a, b int) []int {
	if Span(a, b) != api.OK {
		return nil
	}
	first, end := (a+dayTicks-1)/dayTicks, b/dayTicks
	var l []int
	for day := first; day < end; day++ {
		l = append(l, day)
	}
	return l
}
