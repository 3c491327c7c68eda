package water_test

import (
	"math/big"
	"slices"
	"testing"

	"slackwater/api"
	"slackwater/exact"
	"slackwater/height"
)

// The steps that the document names, each in a function of its own, which no compiler joins with another.

//go:noinline
func plus(x, y float64) float64 { return x + y }

//go:noinline
func less(x, y float64) float64 { return x - y }

// lower tells whether one height is surely lower than another one.
func lower(x, y api.Off) bool { return plus(x.Height, x.Bound) < less(y.Height, y.Bound) }

// watersOf looks at all pairs of places whether they are a run's ends.
func watersOf(l []*big.Rat, first int) []api.Water {
	var all []api.Water
	for i := 1; i < len(l); i++ {
		for j := i; j < len(l)-1 && l[j].Cmp(l[i]) == 0; j++ {
			ahead, behind := l[i-1].Cmp(l[i]), l[j+1].Cmp(l[j])
			if ahead != 0 && ahead == behind {
				all = append(all, api.Water{Tick: first + i, Last: first + j, Top: ahead < 0, Height: fraction(l[i])})
			}
		}
	}
	return all
}

// suresOf looks at each tick as the document says.
func suresOf(l []api.Off, first int) api.Sure {
	var s api.Sure
	for i := range l {
		inner := i > 0 && i < len(l)-1
		if inner && lower(l[i-1], l[i]) && lower(l[i+1], l[i]) {
			s.Tops = append(s.Tops, first+i)
		}
		if inner && lower(l[i], l[i-1]) && lower(l[i], l[i+1]) {
			s.Bottoms = append(s.Bottoms, first+i)
		}
		ahead := i > 0 && !lower(l[i-1], l[i]) && !lower(l[i], l[i-1])
		behind := i < len(l)-1 && !lower(l[i+1], l[i]) && !lower(l[i], l[i+1])
		if ahead || behind {
			s.Doubts = append(s.Doubts, first+i)
		}
	}
	return s
}

// faultOf looks at waters whose heights may be.
func faultOf(l []api.Water) api.Fault {
	for i, w := range l {
		wrong := w.Tick < 0 || w.Last > 1<<20 || w.Last < w.Tick
		if i > 0 {
			side := rational(w.Height).Cmp(rational(l[i-1].Height))
			wrong = wrong || w.Tick <= l[i-1].Last || w.Top == l[i-1].Top || w.Top && side <= 0 || !w.Top && side >= 0
		}
		if wrong {
			return fault(api.ErrArg, i)
		}
	}
	return api.Fault{}
}

// outermostOf looks for a water of that kind from which no other one is farther out, nor any ahead of it as far.
func outermostOf(l []api.Water, top bool) (int, bool) {
	for i, w := range l {
		best := w.Top == top
		for j, v := range l {
			side := rational(v.Height).Cmp(rational(w.Height))
			if !top {
				side = -side
			}
			if v.Top == top && (side > 0 || side == 0 && j < i) {
				best = false
			}
		}
		if best {
			return i, true
		}
	}
	return 0, false
}

func fault(e api.Errno, at int) api.Fault { return api.Fault{Err: e, At: at} }

// top and bottom write waters.
func top(tick, last int, height api.Ratio) api.Water {
	return api.Water{Tick: tick, Last: last, Top: true, Height: height}
}

func bottom(tick, last int, height api.Ratio) api.Water {
	return api.Water{Tick: tick, Last: last, Height: height}
}

// up writes a height in floats and how far it may be off.
func up(height, bound float64) api.Off { return api.Off{Height: height, Bound: bound} }

// wholes writes whole heights.
func wholes(l ...int64) []api.Ratio {
	var all []api.Ratio
	for _, n := range l {
		all = append(all, q(n, 1))
	}
	return all
}

func rationals(l []api.Ratio) []*big.Rat {
	var all []*big.Rat
	for _, a := range l {
		all = append(all, rational(a))
	}
	return all
}

// Lists that are nil and empty ones are the same.

func sameWater(a, b api.Water) bool {
	return a.Tick == b.Tick && a.Last == b.Last && a.Top == b.Top && sameRatio(a.Height, b.Height)
}

func sameWaters(a, b []api.Water) bool { return slices.EqualFunc(a, b, sameWater) }

func sameSure(a, b api.Sure) bool {
	return slices.Equal(a.Tops, b.Tops) && slices.Equal(a.Bottoms, b.Bottoms) && slices.Equal(a.Doubts, b.Doubts)
}

// found and sure hand on answers that may not be refused.
func found(t *testing.T) func(l []api.Water, e api.Errno) []api.Water {
	return func(l []api.Water, e api.Errno) []api.Water {
		t.Helper()
		if e != api.OK {
			t.Fatalf("answered %v, %d waters", e, len(l))
		}
		return l
	}
}

func sure(t *testing.T) func(s api.Sure, e api.Errno) api.Sure {
	return func(s api.Sure, e api.Errno) api.Sure {
		t.Helper()
		if e != api.OK {
			t.Fatalf("answered %v, %v", e, s)
		}
		return s
	}
}

// refused and refusedSure look whether an answer is this error, and nothing beside it.
func refused(t *testing.T, what string, l []api.Water, e, want api.Errno) {
	t.Helper()
	if e != want || len(l) > 0 {
		t.Errorf("%s: %v, %d waters, not %v alone", what, e, len(l), want)
	}
}

func refusedSure(t *testing.T, what string, s api.Sure, e, want api.Errno) {
	t.Helper()
	if e != want || !sameSure(s, api.Sure{}) {
		t.Errorf("%s: %v, %v, not %v alone", what, e, s, want)
	}
}

// exactly and floating are a port's heights as the layers below tell them.
func exactly(t *testing.T, p api.Port, a, b int) []api.Ratio {
	t.Helper()
	l, e := exact.Span(p, a, b)
	if e != api.OK {
		t.Fatalf("exact.Span %d to %d of %s: %v", a, b, p.Name, e)
	}
	return l
}

func floating(t *testing.T, p api.Port, a, b int) []api.Off {
	t.Helper()
	l, e := height.Span(p, a, b)
	if e != api.OK {
		t.Fatalf("height.Span %d to %d of %s: %v", a, b, p.Name, e)
	}
	return l
}
