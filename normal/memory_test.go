package normal_test

import (
	"slices"
	"testing"

	"slackwater/api"
	"slackwater/normal"
)

// roomy is a list in memory of its own with marked words behind it.
func roomy(words []uint32) []uint32 {
	return append(slices.Clone(words), 77, 78, 79)[:len(words)]
}

func markedGauss(a api.Gauss) api.Gauss {
	return g(r(a.Re.Neg, roomy(a.Re.Num), roomy(a.Re.Den)), r(a.Im.Neg, roomy(a.Im.Num), roomy(a.Im.Den)))
}

// marked are numbers all of whose lists have marked room behind them, as they have themselves.
func marked(l []api.Gauss) []api.Gauss {
	numbers := make([]api.Gauss, 0, len(l)+2)
	for _, a := range l {
		numbers = append(numbers, markedGauss(a))
	}
	return append(numbers, z(77, 78), z(79, 80))[:len(l)]
}

func stands(words, was []uint32) bool {
	return slices.Equal(words, was) && slices.Equal(words[len(was):len(was)+3], ints(77, 78, 79))
}

func untouchedGauss(a, was api.Gauss) bool {
	return a.Re.Neg == was.Re.Neg && stands(a.Re.Num, was.Re.Num) && stands(a.Re.Den, was.Re.Den) &&
		a.Im.Neg == was.Im.Neg && stands(a.Im.Num, was.Im.Num) && stands(a.Im.Den, was.Im.Den)
}

// untouched tells whether marked numbers are as they were, the room behind all lists too.
func untouched(l, was []api.Gauss) bool {
	k := len(was)
	return slices.EqualFunc(l, was, untouchedGauss) && same(l[k:k+2], []api.Gauss{z(77, 78), z(79, 80)})
}

// markedTicks and markedRotors have marked room behind them.
func markedTicks(l []int) []int { return append(slices.Clone(l), 77, 78)[:len(l)] }

func markedRotors(l []api.Rotor) []api.Rotor { return append(slices.Clone(l), o(77, 78))[:len(l)] }

func untouchedLists(ticks, wasTicks []int, rotors, wasRotors []api.Rotor) bool {
	i, k := len(wasTicks), len(wasRotors)
	return slices.Equal(ticks, wasTicks) && slices.Equal(ticks[i:i+2], []int{77, 78}) && slices.Equal(rotors, wasRotors) && rotors[:k+1][k] == o(77, 78)
}

// scribbled writes over the words of rows of numbers and of their spare room one by one, and tells whether the others stayed as they were; so over the rows' own numbers.
func scribbled(rows [][]api.Gauss) bool {
	var all [][]uint32
	rows = rows[:cap(rows)]
	for _, row := range rows {
		for _, a := range row[:cap(row)] {
			for _, f := range []api.Ratio{a.Re, a.Im} {
				all = append(all, f.Num[:cap(f.Num)], f.Den[:cap(f.Den)])
			}
		}
	}
	for i, words := range all {
		for j := range words {
			words[j] = uint32(12345 + i)
		}
	}
	for i, words := range all {
		for _, w := range words {
			if w != uint32(12345+i) {
				return false
			}
		}
	}
	return apart(rows)
}

// apart tells whether rows and the room behind each are in memory of their own.
func apart(rows [][]api.Gauss) bool {
	for i, row := range rows {
		for k := range row[:cap(row)] {
			row[:cap(row)][k] = z(int64(i), int64(k))
		}
	}
	for i, row := range rows {
		for k, a := range row[:cap(row)] {
			if !sameGauss(a, z(int64(i), int64(k))) {
				return false
			}
		}
	}
	return true
}

// given is what a call is handed.
type given struct {
	ticks   []int
	heights []api.Gauss
	rotors  []api.Rotor
	numbers []api.Gauss
}

// cases are such as are told fast, and some that are refused here or there.
func cases() map[string]given {
	d := dice(220)
	long := []api.Gauss{g(wide(65535), under(65535)), z(1, 2)}
	return map[string]given{
		"none":           {},
		"no ticks":       {nil, nil, eight(), whole(8)},
		"no rotors":      {span(0, 5), d.numbers(5), nil, nil},
		"one tick":       {[]int{0}, whole(1), eight(), d.numbers(8)},
		"noughts":        {span(0, 3), []api.Gauss{z(0, 0), z(0, 0), z(0, 0)}, pair(), []api.Gauss{z(0, 0), z(0, 0)}},
		"some":           {[]int{1, 5, 9}, d.numbers(3), eight()[2:6], d.numbers(4)},
		"many":           {span(3, 23), d.numbers(20), eight(), d.numbers(8)},
		"too long":       {span(0, 2), long, pair(), whole(2)},
		"numbers long":   {span(0, 2), whole(2), pair(), long},
		"wrong ticks":    {[]int{1, 0}, whole(2), pair(), whole(2)},
		"wrong rotors":   {span(0, 2), whole(2), []api.Rotor{o(2, 1), o(2, 1)}, whole(2)},
		"too few":        {span(0, 2), whole(1), pair(), whole(1)},
		"a rough height": {span(0, 2), []api.Gauss{z(1, 0), g(r(false, ints(2), ints(4)), q(1, 2))}, pair(), whole(2)},
		"a rough number": {span(0, 2), whole(2), pair(), []api.Gauss{z(1, 0), g(q(1, 2), r(false, ints(2), ints(4)))}},
	}
}

// calls answer rows, a right side as one row, or what is left as a row of one.
func calls() map[string]func(x given) ([][]api.Gauss, api.Fault) {
	return map[string]func(x given) ([][]api.Gauss, api.Fault){
		"Of": func(x given) ([][]api.Gauss, api.Fault) { return normal.Of(x.ticks, x.rotors) },
		"Right": func(x given) ([][]api.Gauss, api.Fault) {
			side, f := normal.Right(x.ticks, x.heights, x.rotors)
			return [][]api.Gauss{side}, f
		},
		"Left": func(x given) ([][]api.Gauss, api.Fault) {
			left, f := normal.Left(x.ticks, x.heights, x.rotors, x.numbers)
			return [][]api.Gauss{{g(left, nought())}}, f
		},
		"Ticks":  func(x given) ([][]api.Gauss, api.Fault) { return nil, normal.Ticks(x.ticks) },
		"Rotors": func(x given) ([][]api.Gauss, api.Fault) { return nil, normal.Rotors(x.rotors) },
	}
}

// Rule 4: what is told is new memory: writing over it changes neither what was handed in nor another answer; what was handed in stays as it is, its spare room too, and so it does where a call is refused.
func TestMemory(t *testing.T) {
	for name, call := range calls() {
		for key, x := range cases() {
			used := given{markedTicks(x.ticks), marked(x.heights), markedRotors(x.rotors), marked(x.numbers)}
			first, f := call(used)
			second, again := call(used)
			if f != again || !sameRows(first, second) {
				t.Errorf("%s of %s: unlike answers", name, key)
			}
			var kept [][]api.Gauss
			for _, row := range second {
				kept = append(kept, marked(row))
			}
			if !scribbled(first) || !sameRows(second, kept) {
				t.Errorf("%s of %s: memory that is not its own", name, key)
			}
			if !untouchedLists(used.ticks, x.ticks, used.rotors, x.rotors) || !untouched(used.heights, x.heights) || !untouched(used.numbers, x.numbers) {
				t.Errorf("%s of %s: what was handed in is not as it was", name, key)
			}
			if third, f := call(used); f != again || !sameRows(third, kept) {
				t.Errorf("%s of %s: another answer", name, key)
			}
		}
	}
}

// One memory may stand in several places of what is handed in: as heights and numbers both, and in several of these.
func TestOneMemoryInSeveralPlaces(t *testing.T) {
	f := g(q(-7, 25), q(-7, 25))
	f.Im = f.Re
	one := r(false, ints(1), nil)
	one.Den = one.Num
	l := []api.Gauss{f, g(one, one), f}
	shared := given{span(1, 4), l, eight()[:3], l}
	apart := given{span(1, 4), marked(l), eight()[:3], marked(l)}
	for name, call := range calls() {
		want, _ := call(apart)
		got, fault := call(shared)
		if fault != (api.Fault{}) || !sameRows(got, want) {
			t.Errorf("%s of one memory", name)
		}
		if !scribbled(got) || !same(l, apart.heights) {
			t.Errorf("%s of one memory: memory that is not its own", name)
		}
	}
}
