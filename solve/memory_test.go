package solve_test

import (
	"slices"
	"testing"

	"slackwater/api"
)

// roomy is a list in memory of its own with marked words behind it.
func roomy(words []uint32) []uint32 {
	return append(slices.Clone(words), 77, 78, 79)[:len(words)]
}

func markedGauss(a api.Gauss) api.Gauss {
	return g(r(a.Re.Neg, roomy(a.Re.Num), roomy(a.Re.Den)), r(a.Im.Neg, roomy(a.Im.Num), roomy(a.Im.Den)))
}

// marked are numbers all of whose lists have marked room behind them, as they have themselves; markedRows are rows of such, and rows behind them.
func marked(l []api.Gauss) []api.Gauss {
	numbers := make([]api.Gauss, 0, len(l)+2)
	for _, a := range l {
		numbers = append(numbers, markedGauss(a))
	}
	return append(numbers, z(77, 78), z(79, 80))[:len(l)]
}

func markedRows(m [][]api.Gauss) [][]api.Gauss {
	rows := make([][]api.Gauss, 0, len(m)+1)
	for _, row := range m {
		rows = append(rows, marked(row))
	}
	return append(rows, line(3))[:len(m)]
}

func stands(words, was []uint32) bool {
	return slices.Equal(words, was) && slices.Equal(words[len(was):len(was)+3], ints(77, 78, 79))
}

func untouchedGauss(a, was api.Gauss) bool {
	return a.Re.Neg == was.Re.Neg && stands(a.Re.Num, was.Re.Num) && stands(a.Re.Den, was.Re.Den) &&
		a.Im.Neg == was.Im.Neg && stands(a.Im.Num, was.Im.Num) && stands(a.Im.Den, was.Im.Den)
}

// untouched tells whether marked numbers are as they were, the room behind all lists too; untouchedRows whether rows are.
func untouched(l, was []api.Gauss) bool {
	k := len(was)
	return slices.EqualFunc(l, was, untouchedGauss) && same(l[k:k+2], []api.Gauss{z(77, 78), z(79, 80)})
}

func untouchedRows(m, was [][]api.Gauss) bool {
	return slices.EqualFunc(m, was, untouched) && same(m[:len(was)+1][len(was)], line(3))
}

// words are all lists of words of an answer, their spare room too.
func words(a answer) [][]uint32 {
	var all [][]uint32
	for _, n := range append(a.list[:cap(a.list):cap(a.list)], a.number) {
		for _, f := range []api.Ratio{n.Re, n.Im} {
			all = append(all, f.Num[:cap(f.Num)], f.Den[:cap(f.Den)])
		}
	}
	return all
}

// scribbled writes over the words of an answer one by one, and tells whether the others stayed as they were; then over its list.
func scribbled(a answer) bool {
	all := words(a)
	for i, l := range all {
		for k := range l {
			l[k] = uint32(12345 + i)
		}
	}
	for i, l := range all {
		for _, w := range l {
			if w != uint32(12345+i) {
				return false
			}
		}
	}
	for k := range a.list[:cap(a.list)] {
		a.list[:cap(a.list)][k] = z(55, 56)
	}
	return true
}

// kept is an answer in memory of its own.
func kept(a answer) answer {
	return answer{list: marked(a.list), number: markedGauss(a.number), rank: a.rank, e: a.e}
}

// given is what a call is handed.
type given struct {
	m [][]api.Gauss
	l []api.Gauss
}

// cases are such as are told, and some that are refused here or there.
func cases(t *testing.T) map[string]given {
	d := dice(232)
	long := re(wide(65535))
	return map[string]given{
		"none":              {},
		"none, one beside":  {nil, line(1)},
		"one":               {d.smallRows(1, 1), d.smalls(1)},
		"1":                 {matrix(t, "1"), list(t, "1")},
		"0":                 {matrix(t, "0"), list(t, "0")},
		"in order":          {matrix(t, "1, 0, 0; 0, 1, 0; 0, 0, 1"), list(t, "5, 6/7 1, 0 -1")},
		"in another order":  {matrix(t, "0, 0, 1; 1, 0, 0; 0, 1, 0"), list(t, "5, 6/7 1, 0 -1")},
		"an odd order":      {matrix(t, "0, 1; 1, 0"), list(t, "5, 7")},
		"noughts beside":    {matrix(t, "1, 2; 3, 4"), list(t, "0, 0")},
		"some":              {[][]api.Gauss{d.numbers(3), d.numbers(3), d.numbers(3)}, d.numbers(3)},
		"eight":             {filled(8, 8), line(8)},
		"no pivot":          {matrix(t, "1, 2; 2, 4"), line(2)},
		"more rows":         {filled(5, 2), line(2)},
		"more columns":      {filled(2, 5), line(5)},
		"without numbers":   {hollow(3, 0), nil},
		"too long":          {[][]api.Gauss{{long, z(1, 0)}, {long, z(2, 0)}}, []api.Gauss{long, long}},
		"too long, at last": {matrix(t, "1, 2; 1, 4"), []api.Gauss{z(1, 0), long}},
		"rough":             {[][]api.Gauss{{z(1, 0), re(r(false, ints(2), ints(4)))}, line(2)}, line(2)},
		"rough beside":      {filled(2, 2), []api.Gauss{z(1, 0), im(r(false, ints(2), ints(4)))}},
		"unlike lengths":    {[][]api.Gauss{line(2), line(1)}, line(2)},
		"too many":          {filled(9, 9), line(9)},
	}
}

// Rule 4: what is told is new memory: writing over it changes neither what was handed in nor another answer; what was handed in stays as it is, its rows in their places, its spare room too, and so it does where a call is refused.
func TestMemory(t *testing.T) {
	for name, call := range calls() {
		for key, x := range cases(t) {
			m, l := markedRows(x.m), marked(x.l)
			first, second := call(m, l), call(m, l)
			if !first.is(second) {
				t.Errorf("%s of %s: unlike answers", name, key)
			}
			want := kept(second)
			if !scribbled(first) || !second.is(want) {
				t.Errorf("%s of %s: memory that is not its own", name, key)
			}
			if !untouchedRows(m, x.m) || !untouched(l, x.l) {
				t.Errorf("%s of %s: what was handed in is not as it was", name, key)
			}
			if !call(m, l).is(want) {
				t.Errorf("%s of %s: another answer", name, key)
			}
		}
	}
}

// One memory may stand in several places of what is handed in: as several rows, as parts of one list, as a row and beside it, and in several numbers.
func TestOneMemoryInSeveralPlaces(t *testing.T) {
	f := g(q(-7, 25), q(-7, 25))
	f.Im = f.Re
	one := r(false, ints(1), nil)
	one.Den = one.Num
	l := []api.Gauss{f, g(one, one), z(3, 0), f, z(0, 1), g(one, one)}
	for key, x := range map[string]given{
		"one row thrice":       {[][]api.Gauss{l[:3], l[:3], l[:3]}, l[:3]},
		"rows that overlap":    {[][]api.Gauss{l[:3], l[1:4], l[2:5]}, l[3:]},
		"rows of one list":     {[][]api.Gauss{l[:2], l[2:4]}, l[4:]},
		"backward, overlapped": {[][]api.Gauss{l[3:], l[2:5], l[1:4]}, l[:3]},
	} {
		for name, call := range calls() {
			m, beside := markedRows(x.m), marked(x.l)
			want := kept(call(m, beside))
			got := call(x.m, x.l)
			if !got.is(want) {
				t.Errorf("%s of %s: another answer", name, key)
			}
			if !scribbled(got) || !sameRows(x.m, m) || !same(x.l, beside) {
				t.Errorf("%s of %s: memory that is not its own", name, key)
			}
		}
	}
}

// A call that ended as something was too long leaves nothing behind: those after it answer as they do else.
func TestNothingStaysBehind(t *testing.T) {
	all := cases(t)
	for name, call := range calls() {
		want := map[string]answer{}
		for key, x := range all {
			want[key] = kept(call(x.m, x.l))
		}
		for key, x := range all {
			refused(t, "Solve", "too long", all["too long"].m, all["too long"].l, api.ErrLong)
			if !call(x.m, x.l).is(want[key]) {
				t.Errorf("%s of %s behind what was too long", name, key)
			}
		}
	}
}
