package water_test

import (
	"slices"
	"testing"

	"slackwater/api"
	"slackwater/water"
)

// given is what a call is handed, answer what any of them answers.
type given struct {
	p       api.Port
	heights []api.Ratio
	offs    []api.Off
	waters  []api.Water
	a, b    int
}

type answer struct {
	waters []api.Water
	sure   api.Sure
	f      api.Fault
	place  int
	ok     bool
}

func (a answer) is(b answer) bool {
	return a.f == b.f && a.place == b.place && a.ok == b.ok && sameWaters(a.waters, b.waters) && sameSure(a.sure, b.sure)
}

// calls are the seven.
func calls() map[string]func(x given) answer {
	return map[string]func(x given) answer{
		"Exact": func(x given) answer {
			l, e := water.Exact(x.p, x.a, x.b)
			return answer{waters: l, f: fault(e, 0)}
		},
		"Certain": func(x given) answer {
			s, e := water.Certain(x.p, x.a, x.b)
			return answer{sure: s, f: fault(e, 0)}
		},
		"Of": func(x given) answer {
			l, e := water.Of(x.heights, x.a)
			return answer{waters: l, f: fault(e, 0)}
		},
		"Sures": func(x given) answer {
			s, e := water.Sures(x.offs, x.a)
			return answer{sure: s, f: fault(e, 0)}
		},
		"Check": func(x given) answer { return answer{f: water.Check(x.waters)} },
		"Highest": func(x given) answer {
			k, ok := water.Highest(x.waters)
			return answer{place: k, ok: ok}
		},
		"Lowest": func(x given) answer {
			k, ok := water.Lowest(x.waters)
			return answer{place: k, ok: ok}
		},
	}
}

// What stands behind the lists that are handed in.

func heightBehind() api.Ratio { return q(77, 78) }

func offBehind() api.Off { return up(77, 0.5) }

func waterBehind() api.Water { return top(77, 78, q(77, 79)) }

// markedAll are lists of every kind all of which have marked room behind them.
func markedAll(x given) given {
	m := given{p: marked(x.p), offs: append(slices.Clone(x.offs), offBehind())[:len(x.offs)], a: x.a, b: x.b}
	for _, a := range x.heights {
		m.heights = append(m.heights, markedRatio(a))
	}
	for _, w := range x.waters {
		m.waters = append(m.waters, api.Water{Tick: w.Tick, Last: w.Last, Top: w.Top, Height: markedRatio(w.Height)})
	}
	m.heights, m.waters = append(m.heights, heightBehind())[:len(x.heights)], append(m.waters, waterBehind())[:len(x.waters)]
	return m
}

// untouchedAll tells whether what was marked is as it was, the room behind all lists too.
func untouchedAll(m, was given) bool {
	waters := slices.EqualFunc(m.waters, was.waters, func(a, b api.Water) bool { return sameWater(a, b) && untouchedRatio(a.Height, b.Height) })
	behind := sameRatio(m.heights[:len(m.heights)+1][len(m.heights)], heightBehind()) && m.offs[:len(m.offs)+1][len(m.offs)] == offBehind() && sameWater(m.waters[:len(m.waters)+1][len(m.waters)], waterBehind())
	return waters && behind && untouched(m.p, was.p) && slices.EqualFunc(m.heights, was.heights, untouchedRatio) && slices.Equal(m.offs, was.offs)
}

// scribbled writes over all lists of an answer one by one, their spare room too, and tells whether the others stayed as they were.
func scribbled(a answer) bool {
	var all [][]uint32
	for _, w := range a.waters[:cap(a.waters)] {
		all = append(all, w.Height.Num[:cap(w.Height.Num)], w.Height.Den[:cap(w.Height.Den)])
	}
	ticks := [][]int{a.sure.Tops[:cap(a.sure.Tops)], a.sure.Bottoms[:cap(a.sure.Bottoms)], a.sure.Doubts[:cap(a.sure.Doubts)]}
	fill(all, func(i int) uint32 { return uint32(12345 + i) })
	fill(ticks, func(i int) int { return -55 - i })
	for i := range a.waters[:cap(a.waters)] {
		a.waters[:cap(a.waters)][i] = top(55, 56, q(55, 57))
	}
	return filled(all, func(i int) uint32 { return uint32(12345 + i) }) && filled(ticks, func(i int) int { return -55 - i })
}

func fill[T any](all [][]T, mark func(i int) T) {
	for i, l := range all {
		for k := range l {
			l[k] = mark(i)
		}
	}
}

func filled[T comparable](all [][]T, mark func(i int) T) bool {
	for i, l := range all {
		for _, x := range l {
			if x != mark(i) {
				return false
			}
		}
	}
	return true
}

// kept is an answer in memory of its own.
func kept(a answer) answer {
	k := a
	k.waters = markedAll(given{waters: a.waters}).waters
	k.sure = api.Sure{Tops: slices.Clone(a.sure.Tops), Bottoms: slices.Clone(a.sure.Bottoms), Doubts: slices.Clone(a.sure.Doubts)}
	return k
}

// cases are such as are told, and some that are refused here or there.
func cases() map[string]given {
	heights := []api.Ratio{q(0, 1), q(1, 3), q(1, 3), q(-1, 2), q(7, 5), q(0, 1), q(0, 1), q(1, 1)}
	offs := []api.Off{up(0, 0.1), up(1, 0.1), up(0, 0.1), up(5, 0.1), up(5, 0.1), up(9, 0), up(1, 0), up(4, 0)}
	rough := r(false, ints(2), ints(4))
	wrong := some()
	wrong[3].Height = rough
	tooLong := r(false, full(2049, 1), ints(1))
	return map[string]given{
		"some":      {example(), heights, offs, some(), 0, 15},
		"runs":      {flat(1), append(heights, heights...), append(offs, offs...), zigzag(40), 0, 9},
		"wide":      {h("Wide", r(false, full(2048, 1<<32-1), ints(1))), []api.Ratio{q(0, 1), r(false, full(2048, 1<<32-1), two(65535)), q(1, 2)}, offs[:3], []api.Water{bottom(1, 1, r(true, two(65535), full(2048, 1<<32-1)))}, 4, 7},
		"none":      {h("Still", q(1, 2)), nil, nil, nil, 3, 3},
		"rough":     {h("Rough", rough), append(slices.Clone(heights), rough), offs, wrong, 0, 5},
		"too long":  {h("Long", tooLong), append([]api.Ratio{tooLong}, heights...), offs, []api.Water{top(0, 0, tooLong)}, 0, 5},
		"no span":   {example(), heights, offs, some()[1:], -1, 5},
		"many":      {h("Many", q(1, 2), many(24)...), slices.Repeat(heights, 513), slices.Repeat(offs, 513), zigzag(4097), 0, 9},
		"no name":   {h("1", q(1, 2), m2()), heights[:2], offs[:2], some()[:1], 1 << 20, 9},
		"not near":  {h("Far", r(false, two(900), ints(1)), m2()), heights[3:], offs[3:], []api.Water{some()[1], some()[2]}, 2, 12},
		"one alone": {h("One", q(0, 1), m2()), heights[:1], offs[:1], some()[2:3], 5, 6},
	}
}

// Rule 4: what is told is new memory: writing over it changes neither what was handed in nor another answer; what was handed in stays as it is, its spare room too, and so it does where a call is refused.
func TestMemory(t *testing.T) {
	for name, call := range calls() {
		for key, x := range cases() {
			used := markedAll(x)
			first, second := call(used), call(used)
			if !first.is(second) {
				t.Errorf("%s of %s: unlike answers", name, key)
			}
			want := kept(second)
			if !scribbled(first) || !second.is(want) {
				t.Errorf("%s of %s: memory that is not its own", name, key)
			}
			if !untouchedAll(used, x) {
				t.Errorf("%s of %s: what was handed in is not as it was", name, key)
			}
			if !call(used).is(want) {
				t.Errorf("%s of %s: another answer", name, key)
			}
		}
	}
}

// What was handed in may be written over: an answer stays as it is.
func TestAnswersStay(t *testing.T) {
	for key, x := range cases() {
		used := markedAll(x)
		got := calls()["Of"](used)
		want := kept(got)
		for _, a := range used.heights {
			fill([][]uint32{a.Num, a.Den}, func(int) uint32 { return 99 })
		}
		if !got.is(want) {
			t.Errorf("Of of %s: what was handed in is kept", key)
		}
	}
}

// One memory may stand in several places of what is handed in.
func TestOneMemoryInSeveralPlaces(t *testing.T) {
	one := r(false, ints(1), nil)
	one.Den = one.Num
	third := q(-1, 3)
	shared := given{p: h("One", one, c("a", 2, 1, g(one, third)), c("b", 3, 1, g(third, one))), heights: []api.Ratio{third, one, one, third, one, third},
		waters: []api.Water{bottom(0, 0, third), top(1, 1, one), bottom(2, 2, third), top(3, 3, one)}, a: 0, b: 12}
	single := markedAll(shared)
	for name, call := range calls() {
		want := kept(call(single))
		got := call(shared)
		if got.f.Err != api.OK || !got.is(want) {
			t.Errorf("%s of one memory: %+v", name, got.f)
		}
		if !scribbled(got) || !sameRatio(one, q(1, 1)) || !sameRatio(third, q(-1, 3)) {
			t.Errorf("%s of one memory: memory that is not its own", name)
		}
	}
}
