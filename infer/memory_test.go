package infer_test

import (
	"slices"
	"testing"

	"slackwater/api"
	"slackwater/gauss"
	"slackwater/infer"
)

// given is what a call is handed, answer what any of them answers.
type given struct {
	rotors       []api.Rotor
	n            int
	total, ratio api.Gauss
	tides        []api.Tide
	rules        []api.Rule
}

type answer struct {
	numbers []api.Gauss
	tides   []api.Tide
	places  [2]int
	f       api.Fault
}

func (a answer) is(b answer) bool {
	return a.f == b.f && a.places == b.places && slices.EqualFunc(a.numbers, b.numbers, sameGauss) && sameTides(a.tides, b.tides)
}

// calls are the five.
func calls() map[string]func(x given) answer {
	return map[string]func(x given) answer{
		"Near": func(x given) answer {
			d, e := infer.Near(x.rotors[0], x.rotors[1], x.n)
			return answer{numbers: []api.Gauss{{Re: d}}, f: fault(e, 0)}
		},
		"Apart": func(x given) answer {
			i, k, f := infer.Apart(x.rotors, x.n)
			return answer{places: [2]int{i, k}, f: f}
		},
		"Split": func(x given) answer {
			first, second, e := infer.Split(x.total, x.ratio)
			return answer{numbers: []api.Gauss{first, second}, f: fault(e, 0)}
		},
		"Check": func(x given) answer { return answer{f: fault(infer.Check(x.rules[0]), 0)} },
		"Apply": func(x given) answer {
			l, f := infer.Apply(x.tides, x.rules)
			return answer{tides: l, f: f}
		},
	}
}

// roomy is a list in memory of its own with marked words behind it.
func roomy(words []uint32) []uint32 {
	return append(slices.Clone(words), 77, 78, 79)[:len(words)]
}

func markedGauss(a api.Gauss) api.Gauss {
	return g(r(a.Re.Neg, roomy(a.Re.Num), roomy(a.Re.Den)), r(a.Im.Neg, roomy(a.Im.Num), roomy(a.Im.Den)))
}

// What stands behind the lists that are handed in.

func tideBehind() api.Tide { return tide("M77", o(7, 8), z(7, 8)) }

func ruleBehind() api.Rule { return rule("M77", "M78", o(7, 8), z(7, 8)) }

func sameRule(a, b api.Rule) bool {
	return a.From == b.From && a.Name == b.Name && a.Rotor == b.Rotor && sameGauss(a.Ratio, b.Ratio)
}

// marked are lists of every kind all of which have marked room behind them.
func marked(x given) given {
	m := given{rotors: append(slices.Clone(x.rotors), o(77, 78))[:len(x.rotors)], n: x.n, total: markedGauss(x.total), ratio: markedGauss(x.ratio)}
	for _, c := range x.tides {
		m.tides = append(m.tides, tide(c.Name, c.Rotor, markedGauss(c.Number)))
	}
	for _, c := range x.rules {
		m.rules = append(m.rules, rule(c.From, c.Name, c.Rotor, markedGauss(c.Ratio)))
	}
	m.tides, m.rules = append(m.tides, tideBehind())[:len(x.tides)], append(m.rules, ruleBehind())[:len(x.rules)]
	return m
}

func stands(words, was []uint32) bool {
	return slices.Equal(words, was) && slices.Equal(words[len(was):len(was)+3], ints(77, 78, 79))
}

func untouchedGauss(a, was api.Gauss) bool {
	return a.Re.Neg == was.Re.Neg && stands(a.Re.Num, was.Re.Num) && stands(a.Re.Den, was.Re.Den) &&
		a.Im.Neg == was.Im.Neg && stands(a.Im.Num, was.Im.Num) && stands(a.Im.Den, was.Im.Den)
}

// untouched tells whether what was marked is as it was, the room behind all lists too.
func untouched(m, was given) bool {
	tides := slices.EqualFunc(m.tides, was.tides, func(a, b api.Tide) bool {
		return a.Name == b.Name && a.Rotor == b.Rotor && untouchedGauss(a.Number, b.Number)
	})
	rules := slices.EqualFunc(m.rules, was.rules, func(a, b api.Rule) bool {
		return a.From == b.From && a.Name == b.Name && a.Rotor == b.Rotor && untouchedGauss(a.Ratio, b.Ratio)
	})
	behind := m.rotors[:len(m.rotors)+1][len(m.rotors)] == o(77, 78) &&
		sameTide(m.tides[:len(m.tides)+1][len(m.tides)], tideBehind()) && sameRule(m.rules[:len(m.rules)+1][len(m.rules)], ruleBehind())
	return tides && rules && behind && slices.Equal(m.rotors, was.rotors) && untouchedGauss(m.total, was.total) && untouchedGauss(m.ratio, was.ratio)
}

// words are all lists of words of an answer, their spare room too.
func words(a answer) [][]uint32 {
	numbers := slices.Clone(a.numbers)
	for _, c := range a.tides[:cap(a.tides)] {
		numbers = append(numbers, c.Number)
	}
	var all [][]uint32
	for _, n := range numbers {
		for _, f := range []api.Ratio{n.Re, n.Im} {
			all = append(all, f.Num[:cap(f.Num)], f.Den[:cap(f.Den)])
		}
	}
	return all
}

// scribbled writes over the words of an answer one by one, and tells whether the others stayed as they were; then over its list.
func scribbled(a answer) bool {
	all := words(a)
	for i, l := range all {
		for k := range l {
			l[k] = uint32(12345 + i)
		}
	}
	for i, l := range all {
		for _, w := range l {
			if w != uint32(12345+i) {
				return false
			}
		}
	}
	for k := range a.tides[:cap(a.tides)] {
		a.tides[:cap(a.tides)][k] = tide("M55", o(5, 6), z(55, 56))
	}
	return true
}

// kept is an answer in memory of its own.
func kept(a answer) answer {
	k := answer{tides: marked(given{tides: a.tides}).tides, places: a.places, f: a.f}
	for _, n := range a.numbers {
		k.numbers = append(k.numbers, markedGauss(n))
	}
	return k
}

// cases are such as are told, and some that are refused here or there.
func cases() map[string]given {
	d := dice(2409)
	rough := g(q(1, 2), r(false, ints(2), ints(4)))
	some := []api.Tide{tide("A", o(2, 1), d.number()), tide("B", o(3, 1), z(0, 0)), tide("A", o(4, 1), z(1, 1)), tide("C", o(5, 1), d.number())}
	rules := []api.Rule{rule("C", "D", o(2, -1), d.number()), rule("A", "E", o(3, -1), z(0, 0)), rule("D", "F", o(4, -1), z(0, 1))}
	pair := []api.Rotor{o(2, 1), o(2, -1)}
	return map[string]given{
		"some":               {eight(), 5, d.number(), d.number(), some, rules},
		"no samples":         {pair, 0, z(0, 0), z(0, 1), nil, rules},
		"one twice":          {[]api.Rotor{o(2, 1), o(2, 1)}, 9, z(1, 0), z(0, 0), some[:1], []api.Rule{rule("A", "A", o(2, -1), z(1, 1))}},
		"by 0":               {pair, 1, d.number(), z(0, 0), some, []api.Rule{rule("A", "D", o(9, 2), z(0, 0))}},
		"by 1":               {pair, 30, d.number(), z(1, 0), some, []api.Rule{rule("A", "D", o(9, 2), z(1, 0)), rule("A", "E", o(9, 4), z(-2, 0))}},
		"many":               {widest(), 60, d.number(), d.number(), many(20), manyRules(4)},
		"too many":           {append(eight(), o(7, 2)), 257, z(1, 0), z(-1, 0), many(23), manyRules(2)},
		"too long":           {eight(), -1, re(wide(65535)), z(1, 0), []api.Tide{tide("A", o(2, 1), re(wide(65535)))}, []api.Rule{rule("A", "B", o(3, 1), z(0, 0)), rule("A", "C", o(4, 1), z(1, 0))}},
		"as long as may be":  {pair, 256, g(wide(65535), under(65535)), z(0, 0), []api.Tide{tide("A", o(2, 1), g(wide(65535), under(65535)))}, []api.Rule{rule("A", "B", o(3, 1), z(0, 0))}},
		"wrong rotors":       {[]api.Rotor{o(2, 1), {}, o(2, 1)}, 2, z(1, 0), z(-1, 0), some, append(slices.Clone(rules), rule("A", "G", o(1, 1), z(1, 0)))},
		"a rough total":      {pair, 2, rough, z(1, 0), append(slices.Clone(some), tide("G", o(9, 1), rough)), rules},
		"a rough ratio":      {pair, 2, z(1, 0), rough, some, append(slices.Clone(rules), rule("A", "G", o(9, 1), rough))},
		"no such From":       {pair, 3, z(1, 2), z(3, 4), some, append(slices.Clone(rules), rule("X", "G", o(9, 1), z(1, 0)))},
		"there":              {pair, 3, z(1, 2), z(3, 4), some, append(slices.Clone(rules), rule("A", "D", o(9, 1), z(1, 0)))},
		"a wrong rule first": {pair, 3, z(1, 2), z(3, 4), some, []api.Rule{{}}},
	}
}

// Rule 4: what is told is new memory: writing over it changes neither what was handed in nor another answer; what was handed in stays as it is, its spare room too, and so it does where a call is refused.
func TestMemory(t *testing.T) {
	for name, call := range calls() {
		for key, x := range cases() {
			used := marked(x)
			first, second := call(used), call(used)
			if !first.is(second) {
				t.Errorf("%s of %s: unlike answers", name, key)
			}
			want := kept(second)
			if !scribbled(first) || !second.is(want) {
				t.Errorf("%s of %s: memory that is not its own", name, key)
			}
			if !untouched(used, x) {
				t.Errorf("%s of %s: what was handed in is not as it was", name, key)
			}
			if !call(used).is(want) {
				t.Errorf("%s of %s: another answer", name, key)
			}
		}
	}
}

// What was handed in may be written over: an answer stays as it is.
func TestAnswersStay(t *testing.T) {
	for key, x := range cases() {
		used := marked(x)
		got := calls()["Apply"](used)
		want := kept(got)
		inner := answer{numbers: []api.Gauss{used.total, used.ratio}, tides: used.tides}
		for _, c := range used.rules {
			inner.numbers = append(inner.numbers, c.Ratio)
		}
		if !scribbled(inner) || !got.is(want) {
			t.Errorf("Apply of %s: what was handed in is kept", key)
		}
	}
}

// One memory may stand in several places of what is handed in.
func TestOneMemoryInSeveralPlaces(t *testing.T) {
	f := g(q(-7, 25), q(-7, 25))
	f.Im = f.Re
	one := r(false, ints(1), nil)
	one.Den = one.Num
	shared := given{rotors: eight(), n: 3, total: f, ratio: f,
		tides: []api.Tide{tide("A", o(2, 1), f), tide("B", o(3, 1), f), tide("C", o(4, 1), g(one, one))},
		rules: []api.Rule{rule("A", "D", o(2, -1), f), rule("C", "E", o(3, -1), g(one, one)), rule("D", "F", o(4, -1), f)}}
	single := marked(shared)
	for name, call := range calls() {
		want := kept(call(single))
		got := call(shared)
		if got.f.Err != api.OK || !got.is(want) {
			t.Errorf("%s of one memory: %+v", name, got.f)
		}
		if !scribbled(got) || !sameGauss(f, single.total) || gauss.Check(g(one, one)) != api.OK || len(one.Num) != 1 || one.Num[0] != 1 {
			t.Errorf("%s of one memory: memory that is not its own", name)
		}
	}
}
