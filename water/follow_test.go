package water_test

import (
	"slices"
	"strconv"
	"testing"

	"slackwater/api"
	"slackwater/water"
)

// ports are such as are told exactly and in floats: thrown ones, ones with runs, ones whose heights floats hardly tell apart.
func ports() []api.Port {
	d := dice(256)
	all := []api.Port{example(), flat(0), flat(1), flat(2), h("Still", q(1, 2)), h("Slow", q(0, 1), c("a", 1000, 1, z(1, 1))), h("Pair", q(3, 1), m2(), m2c()), h("Flip", q(0, 1), c("a", 1, 1000, z(0, 1)), c("b", 1, 2, z(1, 0)))}
	for i, k := range []int{30, 47, 49, 50, 51, 60, 300} {
		small := r(false, ints(1), two(k))
		all = append(all, h("Close"+strconv.Itoa(i), q(1, 1), c("a", 8, 1, g(small, q(0, 1))), c("b", 3, 2, g(q(0, 1), small))))
	}
	// Twice the same number, once with a rotor beside it: what takes itself off leaves little.
	all = append(all, h("Beats", q(0, 1), c("a", 1000, 999, z(1, 0)), c("b", 999, 1000, z(1, 0))), h("Off", q(0, 1), c("a", 1000, 1, z(1<<40, 0)), c("b", 1000, -1, z(-1<<40, 0)), c("d", 2, 1, g(q(1, 1<<20), q(0, 1)))))
	for i := range 25 {
		all = append(all, d.port(5, []int{0, 20, 60}[i%3]))
	}
	return all
}

// P25.5: Exact's waters pass Check: they rise, and tops and bottoms follow each other in turn.
func TestExactPassesCheck(t *testing.T) {
	d := dice(257)
	for _, p := range ports() {
		a := d.below(5)
		l := found(t)(water.Exact(p, a, a+25))
		if f := water.Check(l); f != (api.Fault{}) {
			t.Errorf("%s: %+v", p.Name, f)
		}
		for i, w := range l {
			if w.Tick <= a || w.Last >= a+24 || w.Last < w.Tick {
				t.Errorf("%s: from %d to %d", p.Name, w.Tick, w.Last)
			}
			if i > 0 && (w.Tick <= l[i-1].Last || w.Top == l[i-1].Top) {
				t.Errorf("%s: %d behind %d", p.Name, w.Tick, l[i-1].Last)
			}
		}
		looked(t, l)
	}
	for i := range 200 {
		var heights []api.Ratio
		for range d.below(40) {
			heights = append(heights, q(int64(d.below(4)), int64(1+d.below(3))))
		}
		if f := water.Check(found(t)(water.Of(heights, i))); f != (api.Fault{}) {
			t.Errorf("%v: %+v", heights, f)
		}
	}
}

// P25.5, P5: what is exact is certain or doubtful, and what is certain is exact.
func TestExactAndCertain(t *testing.T) {
	tops, runs, inDoubt := 0, 0, 0
	for _, p := range ports() {
		a, b := 0, 30
		l, s := found(t)(water.Exact(p, a, b)), sure(t)(water.Certain(p, a, b))
		for _, w := range l {
			certain := s.Bottoms
			if w.Top {
				certain = s.Tops
			}
			for at := w.Tick; at <= w.Last; at++ {
				isSure, doubtful := slices.Contains(certain, at), slices.Contains(s.Doubts, at)
				switch {
				case w.Tick == w.Last && isSure == doubtful:
					t.Errorf("%s at %d: certain %v, doubtful %v", p.Name, at, isSure, doubtful)
				case w.Tick < w.Last && (isSure || !doubtful):
					t.Errorf("%s at %d in a run: certain %v, doubtful %v", p.Name, at, isSure, doubtful)
				case isSure:
					tops++
				case w.Tick < w.Last:
					runs++
				default:
					inDoubt++
				}
			}
		}
		for i, certain := range [][]int{s.Tops, s.Bottoms} {
			for _, at := range certain {
				if !slices.ContainsFunc(l, func(w api.Water) bool { return w.Tick == at && w.Last == at && w.Top == (i == 0) }) {
					t.Errorf("%s: %d is certain, but not exact", p.Name, at)
				}
			}
		}
		for _, rises := range [][]int{s.Tops, s.Bottoms, s.Doubts} {
			if !slices.IsSorted(rises) || len(slices.Compact(slices.Clone(rises))) != len(rises) {
				t.Errorf("%s: %v", p.Name, rises)
			}
		}
	}
	if tops < 50 || runs < 3 || inDoubt < 10 {
		t.Errorf("%d certain, %d in runs, %d in doubt: too few to tell", tops, runs, inDoubt)
	}
}

// lists are heights, some thrown, some close.
func lists() [][]api.Ratio {
	d := dice(258)
	all := [][]api.Ratio{nil, wholes(1), wholes(0, 1, 0), wholes(0, 1, 1, 0, 2, 2), wholes(2, 2, 2)}
	for _, w := range close() {
		all = append(all, []api.Ratio{w[0], w[1], w[1], w[0], w[0], w[1], w[0]})
	}
	for range 150 {
		few := []api.Ratio{d.fraction(), d.fraction(), d.fraction(), q(0, 1)}
		var l []api.Ratio
		for range d.below(30) {
			l = append(l, few[d.below(4)])
		}
		all = append(all, l)
	}
	return all
}

// P25.5: negated heights have the same waters, tops and bottoms changed about.
func TestNegatedHeights(t *testing.T) {
	for i, l := range lists() {
		negated := slices.Clone(l)
		for k, a := range l {
			negated[k].Neg = !a.Neg && len(a.Num) > 0
		}
		want := found(t)(water.Of(l, 11))
		for k, w := range want {
			want[k].Top, want[k].Height.Neg = !w.Top, !w.Height.Neg && len(w.Height.Num) > 0
		}
		if got := found(t)(water.Of(negated, 11)); !sameWaters(got, want) {
			t.Errorf("%d: %v, not %v", i, got, want)
		}
	}
}

// P25.5: the list turned round has the waters turned round.
func TestHeightsTurnedRound(t *testing.T) {
	for i, l := range lists() {
		round := slices.Clone(l)
		slices.Reverse(round)
		want := found(t)(water.Of(l, 0))
		slices.Reverse(want)
		for k, w := range want {
			want[k].Tick, want[k].Last = len(l)-1-w.Last, len(l)-1-w.Tick
		}
		if got := found(t)(water.Of(round, 0)); !sameWaters(got, want) {
			t.Errorf("%d: %v, not %v", i, got, want)
		}
	}
}

// within tells whether all of some waters stand among others.
func within(some, all []api.Water) bool {
	return !slices.ContainsFunc(some, func(w api.Water) bool {
		return !slices.ContainsFunc(all, func(v api.Water) bool { return sameWater(v, w) })
	})
}

// P25.5: a longer span has the shorter one's waters among its own.
func TestLongerSpans(t *testing.T) {
	for _, p := range []api.Port{example(), flat(1), flat(2), ports()[7], ports()[20]} {
		long := found(t)(water.Exact(p, 0, 24))
		for a := range 24 {
			for b := a; b <= 24; b++ {
				if short := found(t)(water.Exact(p, a, b)); !within(short, long) {
					t.Errorf("%s, %d to %d: %v, not among %v", p.Name, a, b, short, long)
				}
			}
		}
	}
	for i, l := range lists() {
		long := found(t)(water.Of(l, 9))
		for a := range l {
			for _, b := range []int{a, min(a+4, len(l)), min(a+9, len(l)), len(l)} {
				if short := found(t)(water.Of(l[a:b], 9+a)); !within(short, long) {
					t.Errorf("%d, %d to %d: %v, not among %v", i, a, b, short, long)
				}
			}
		}
	}
}
