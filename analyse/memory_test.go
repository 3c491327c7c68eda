package analyse_test

import (
	"math"
	"slices"
	"testing"

	"slackwater/api"
)

// roomy is a list in memory of its own with marked words behind it.
func roomy(words []uint32) []uint32 {
	return append(slices.Clone(words), 77, 78, 79)[:len(words)]
}

func markedGauss(a api.Gauss) api.Gauss {
	return g(r(a.Re.Neg, roomy(a.Re.Num), roomy(a.Re.Den)), r(a.Im.Neg, roomy(a.Im.Num), roomy(a.Im.Den)))
}

// marked are lists of every kind all of which have marked room behind them.
func marked(x given) given {
	m := given{
		ticks:   append(slices.Clone(x.ticks), 77, 78)[:len(x.ticks)],
		rotors:  append(slices.Clone(x.rotors), o(77, 78))[:len(x.rotors)],
		samples: append(slices.Clone(x.samples), s(77, 78))[:len(x.samples)],
		heights: make([]api.Gauss, 0, len(x.heights)+1),
		tides:   make([]api.Tide, 0, len(x.tides)+1),
	}
	for _, a := range x.heights {
		m.heights = append(m.heights, markedGauss(a))
	}
	for _, c := range x.tides {
		m.tides = append(m.tides, tide(c.Name, c.Rotor, markedGauss(c.Number)))
	}
	m.heights, m.tides = append(m.heights, z(77, 78))[:len(x.heights)], append(m.tides, tide("M77", o(7, 8), z(7, 8)))[:len(x.tides)]
	return m
}

func stands(words, was []uint32) bool {
	return slices.Equal(words, was) && slices.Equal(words[len(was):len(was)+3], ints(77, 78, 79))
}

func untouchedGauss(a, was api.Gauss) bool {
	return a.Re.Neg == was.Re.Neg && stands(a.Re.Num, was.Re.Num) && stands(a.Re.Den, was.Re.Den) &&
		a.Im.Neg == was.Im.Neg && stands(a.Im.Num, was.Im.Num) && stands(a.Im.Den, was.Im.Den)
}

func sameSample(a, b api.Sample) bool {
	return a.Tick == b.Tick && math.Float64bits(a.Height) == math.Float64bits(b.Height)
}

// untouched tells whether what was marked is as it was, the room behind all lists too.
func untouched(m, was given) bool {
	tides := slices.EqualFunc(m.tides, was.tides, func(a, b api.Tide) bool {
		return a.Name == b.Name && a.Rotor == b.Rotor && untouchedGauss(a.Number, b.Number)
	})
	return tides && slices.Equal(m.ticks, was.ticks) && slices.Equal(m.rotors, was.rotors) &&
		slices.EqualFunc(m.samples, was.samples, sameSample) && slices.EqualFunc(m.heights, was.heights, untouchedGauss) &&
		slices.Equal(m.ticks[len(m.ticks):len(m.ticks)+2], []int{77, 78}) && m.rotors[:len(m.rotors)+1][len(m.rotors)] == o(77, 78) &&
		sameSample(m.samples[:len(m.samples)+1][len(m.samples)], s(77, 78)) && sameGauss(m.heights[:len(m.heights)+1][len(m.heights)], z(77, 78)) &&
		sameTide(m.tides[:len(m.tides)+1][len(m.tides)], tide("M77", o(7, 8), z(7, 8)))
}

// words are all lists of words of an answer, their spare room too.
func words(a answer) [][]uint32 {
	numbers := append(slices.Clone(a.list[:cap(a.list)]), re(a.sum))
	for _, c := range a.tides[:cap(a.tides)] {
		numbers = append(numbers, c.Number)
	}
	var all [][]uint32
	for _, n := range numbers {
		for _, f := range []api.Ratio{n.Re, n.Im} {
			all = append(all, f.Num[:cap(f.Num)], f.Den[:cap(f.Den)])
		}
	}
	return all
}

// scribbled writes over the words of an answer one by one, and tells whether the others stayed as they were; then over its lists.
func scribbled(a answer) bool {
	all := words(a)
	for i, l := range all {
		for k := range l {
			l[k] = uint32(12345 + i)
		}
	}
	for i, l := range all {
		for _, w := range l {
			if w != uint32(12345+i) {
				return false
			}
		}
	}
	for k := range a.list[:cap(a.list)] {
		a.list[:cap(a.list)][k] = z(55, 56)
	}
	for k := range a.tides[:cap(a.tides)] {
		a.tides[:cap(a.tides)][k] = tide("M55", o(5, 6), z(55, 56))
	}
	for k := range a.ticks[:cap(a.ticks)] {
		a.ticks[:cap(a.ticks)][k] = 55
	}
	return true
}

// kept is an answer in memory of its own.
func kept(a answer) answer {
	m := marked(given{ticks: a.ticks, heights: append([]api.Gauss{re(a.sum)}, a.list...), tides: a.tides})
	return answer{tides: m.tides, ticks: m.ticks, list: m.heights[1:], sum: m.heights[0].Re, e: a.e}
}

// cases are such as are told, and some that are refused here or there.
func cases() map[string]given {
	d := dice(2311)
	rough := g(q(1, 2), r(false, ints(2), ints(4)))
	samples := samplesAt([]int{0, 1, 5, 6, 9, 20})
	return map[string]given{
		"none":              {},
		"no ticks":          {tides: tidesOf(eight(), whole(8)), rotors: pair()[:1]},
		"no rotors":         {span(0, 5), d.numbers(5), nil, nil, samples},
		"noughts":           {span(0, 3), []api.Gauss{z(0, 0), z(0, 0), z(0, 0)}, pair(), tidesOf(pair(), []api.Gauss{z(0, 0), z(0, 0)}), []api.Sample{s(0, 0), s(1, 0), s(2, 0)}},
		"one":               {[]int{0}, whole(1), pair()[:1], tidesOf(pair()[:1], whole(1)), samples[:1]},
		"some":              {[]int{1, 5, 9, 12}, d.numbers(4), eight()[2:5], tidesOf(eight()[2:5], d.numbers(3)), samples},
		"many":              {span(3, 13), d.numbers(10), eight(), tidesOf(eight(), d.numbers(8)), samplesAt(span(2, 17))},
		"no numbers":        {span(0, 2), whole(2), pair(), tidesOf(pair(), whole(2)), []api.Sample{s(0, math.NaN()), s(1, math.Inf(1))}},
		"singular":          {[]int{3}, whole(1), pair(), nil, samples[:1]},
		"too long":          {span(1, 3), []api.Gauss{g(wide(65535), under(65535)), z(1, 2)}, pair(), tidesOf(pair(), whole(2)), samples},
		"a sum too long":    {span(0, 2), []api.Gauss{re(wide(65535)), z(1, 2)}, pair(), nil, samples},
		"wrong ticks":       {[]int{1, 0}, whole(2), pair(), tidesOf(pair(), whole(2)), []api.Sample{s(1, 1), s(0, 0)}},
		"wrong rotors":      {span(0, 2), whole(2), []api.Rotor{o(2, 1), o(2, 1)}, []api.Tide{{}}, samples},
		"too few":           {span(0, 2), whole(1), pair(), tidesOf(pair(), whole(2)), samples[:2]},
		"a rough height":    {span(0, 2), []api.Gauss{z(1, 0), rough}, pair(), tidesOf(pair(), whole(2)), samples},
		"a rough number":    {span(0, 2), whole(2), pair(), tidesOf(pair(), []api.Gauss{z(1, 0), rough}), samples},
		"too many of these": {span(0, 2), whole(2), make([]api.Rotor, 9), make([]api.Tide, 9), make([]api.Sample, 257)},
	}
}

// Rule 4: what is told is new memory: writing over it changes neither what was handed in nor another answer; what was handed in stays as it is, its spare room too, and so it does where a call is refused.
func TestMemory(t *testing.T) {
	for name, call := range calls() {
		for key, x := range cases() {
			used := marked(x)
			first, second := call(used), call(used)
			if !first.is(second) {
				t.Errorf("%s of %s: unlike answers", name, key)
			}
			want := kept(second)
			if !scribbled(first) || !second.is(want) {
				t.Errorf("%s of %s: memory that is not its own", name, key)
			}
			if !untouched(used, x) {
				t.Errorf("%s of %s: what was handed in is not as it was", name, key)
			}
			if !call(used).is(want) {
				t.Errorf("%s of %s: another answer", name, key)
			}
		}
	}
}

// One memory may stand in several places of what is handed in: as heights and Numbers both, and in several of these.
func TestOneMemoryInSeveralPlaces(t *testing.T) {
	f := g(q(-7, 25), q(-7, 25))
	f.Im = f.Re
	one := r(false, ints(1), nil)
	one.Den = one.Num
	l := []api.Gauss{f, g(one, one), f}
	rotors := eight()[:3]
	for _, tides := range [][]api.Tide{nil, tidesOf(rotors, l)} {
		shared := given{ticks: span(1, 4), heights: l, rotors: rotors, tides: tides, samples: samplesOf(3)}
		single := marked(shared)
		for name, call := range calls() {
			want := kept(call(single))
			got := call(shared)
			if got.e != api.OK || !got.is(want) {
				t.Errorf("%s of one memory: %v", name, got.e)
			}
			if !scribbled(got) || !same(l, single.heights) || !sameTides(tides, single.tides) {
				t.Errorf("%s of one memory: memory that is not its own", name)
			}
		}
	}
}
