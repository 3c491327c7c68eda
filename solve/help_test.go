package solve_test

import (
	"math/big"
	"slices"
	"strconv"
	"strings"
	"testing"

	"slackwater/api"
	"slackwater/gauss"
	"slackwater/solve"
)

// q writes the fraction n over d, d above 0, without calling what is tested.
func q(n, d int64) api.Ratio { return fraction(big.NewRat(n, d)) }

// fraction writes one of the library's fractions.
func fraction(f *big.Rat) api.Ratio {
	return api.Ratio{Neg: f.Sign() < 0, Num: wordsOf(f.Num()), Den: wordsOf(f.Denom())}
}

func wordsOf(n *big.Int) []uint32 {
	rest, low := new(big.Int).Abs(n), big.NewInt(1<<32-1)
	var words []uint32
	for rest.Sign() != 0 {
		words = append(words, uint32(new(big.Int).And(rest, low).Uint64()))
		rest.Rsh(rest, 32)
	}
	return words
}

// g writes a number of two parts, z one of two whole ones, re and im one of which the other part is 0.
func g(re, im api.Ratio) api.Gauss { return api.Gauss{Re: re, Im: im} }

func z(x, y int64) api.Gauss { return g(q(x, 1), q(y, 1)) }

func re(a api.Ratio) api.Gauss { return g(a, q(0, 1)) }

func im(a api.Ratio) api.Gauss { return g(q(0, 1), a) }

// r writes a sign and two lists as they are.
func r(neg bool, num, den []uint32) api.Ratio { return api.Ratio{Neg: neg, Num: num, Den: den} }

func ints(words ...uint32) []uint32 { return words }

// full is a list of so many words that are all x, two is 2 to the power k.
func full(words int, x uint32) []uint32 { return slices.Repeat([]uint32{x}, words) }

func two(k int) []uint32 { return append(make([]uint32, k/32), 1<<(k%32)) }

// wide, under and less are 2 to the power k, 1 over it, and 0 less it.
func wide(k int) api.Ratio { return r(false, two(k), ints(1)) }

func under(k int) api.Ratio { return r(false, ints(1), two(k)) }

func less(k int) api.Ratio { return r(true, two(k), ints(1)) }

// odd has nothing in common below with under.
func odd(words int) api.Ratio { return r(false, ints(1), full(words, 1<<32-1)) }

// list reads numbers with commas between, each one as gauss tells it, or a single whole number.
func list(t *testing.T, s string) []api.Gauss {
	t.Helper()
	var l []api.Gauss
	for s != "" {
		var text string
		text, s, _ = strings.Cut(s, ",")
		text = strings.TrimSpace(text)
		if !strings.Contains(text, " ") {
			text += " 0"
		}
		a, e := gauss.Parse(text)
		if e != api.OK {
			t.Fatalf("%q: %v", text, e)
		}
		l = append(l, a)
	}
	return l
}

// matrix reads rows with semicolons between; of an empty text none.
func matrix(t *testing.T, s string) [][]api.Gauss {
	t.Helper()
	var m [][]api.Gauss
	for s != "" {
		var row string
		row, s, _ = strings.Cut(s, ";")
		m = append(m, list(t, row))
	}
	return m
}

// filled are so many rows and columns of small numbers that may be; line is one of them.
func filled(rows, columns int) [][]api.Gauss {
	var m [][]api.Gauss
	for i := range rows {
		m = append(m, line(columns + i)[i:])
	}
	return m
}

func line(k int) []api.Gauss {
	l := make([]api.Gauss, k)
	for i := range l {
		l[i] = z(int64(i*i%7-3), int64(i%5-1))
	}
	return l
}

// hollow are rows of numbers that may not be.
func hollow(rows, columns int) [][]api.Gauss {
	m := make([][]api.Gauss, rows)
	for i := range m {
		m[i] = make([]api.Gauss, columns)
	}
	return m
}

// diagonal has these numbers in it, all else is 0.
func diagonal(l ...api.Gauss) [][]api.Gauss {
	var m [][]api.Gauss
	for i, a := range l {
		m = append(m, slices.Repeat([]api.Gauss{z(0, 0)}, len(l)))
		m[i][i] = a
	}
	return m
}

// A list that is nil and an empty one are the same.

func sameRatio(a, b api.Ratio) bool {
	return a.Neg == b.Neg && slices.Equal(a.Num, b.Num) && slices.Equal(a.Den, b.Den)
}

func sameGauss(a, b api.Gauss) bool { return sameRatio(a.Re, b.Re) && sameRatio(a.Im, b.Im) }

func same(a, b []api.Gauss) bool { return slices.EqualFunc(a, b, sameGauss) }

func sameRows(a, b [][]api.Gauss) bool { return slices.EqualFunc(a, b, same) }

// answer is what any of the calls answers: Solve and Times a list, Det a number, Rank a count.
type answer struct {
	list   []api.Gauss
	number api.Gauss
	rank   int
	e      api.Errno
}

func (a answer) is(b answer) bool {
	return a.e == b.e && same(a.list, b.list) && sameGauss(a.number, b.number) && a.rank == b.rank
}

// calls are the four, each handed a matrix and the list beside it.
func calls() map[string]func(m [][]api.Gauss, l []api.Gauss) answer {
	return map[string]func(m [][]api.Gauss, l []api.Gauss) answer{
		"Solve": func(m [][]api.Gauss, l []api.Gauss) answer {
			x, e := solve.Solve(m, l)
			return answer{list: x, e: e}
		},
		"Det": func(m [][]api.Gauss, l []api.Gauss) answer {
			d, e := solve.Det(m)
			return answer{number: d, e: e}
		},
		"Rank": func(m [][]api.Gauss, l []api.Gauss) answer {
			k, e := solve.Rank(m)
			return answer{rank: k, e: e}
		},
		"Times": func(m [][]api.Gauss, l []api.Gauss) answer {
			x, e := solve.Times(m, l)
			return answer{list: x, e: e}
		},
	}
}

// refused looks whether a call answers just this error, and nothing beside it.
func refused(t *testing.T, name, what string, m [][]api.Gauss, l []api.Gauss, want api.Errno) {
	t.Helper()
	if got := calls()[name](m, l); !got.is(answer{e: want}) {
		t.Errorf("%s, %s: %v, %d numbers, rank %d, not %v alone", name, what, got.e, len(got.list), got.rank, want)
	}
}

// must hands on what a call answers, which may not be refused and must be in its one form; so do the four below it.
func must(t *testing.T, name string, m [][]api.Gauss, l []api.Gauss) answer {
	t.Helper()
	got := calls()[name](m, l)
	numbers := got.list
	if name == "Det" {
		numbers = []api.Gauss{got.number}
	}
	for i, a := range numbers {
		if e := gauss.Check(a); e != api.OK {
			t.Fatalf("%s: the number %d is not in its one form: %v, %v", name, i, e, got.e)
		}
	}
	if got.e != api.OK {
		t.Fatalf("%s answered %v", name, got.e)
	}
	return got
}

func mustSolve(t *testing.T, m [][]api.Gauss, l []api.Gauss) []api.Gauss {
	t.Helper()
	return must(t, "Solve", m, l).list
}

func mustDet(t *testing.T, m [][]api.Gauss) api.Gauss {
	t.Helper()
	return must(t, "Det", m, nil).number
}

func mustRank(t *testing.T, m [][]api.Gauss) int {
	t.Helper()
	return must(t, "Rank", m, nil).rank
}

func mustTimes(t *testing.T, m [][]api.Gauss, l []api.Gauss) []api.Gauss {
	t.Helper()
	return must(t, "Times", m, l).list
}

// wrongNumber is a complex fraction that may not be, and its error.
type wrongNumber struct {
	a    api.Gauss
	want api.Errno
}

// wrongNumbers are such in either part, and in both: the real one's error is told.
func wrongNumbers() map[string]wrongNumber {
	long, rough := r(false, full(2049, 1), ints(1)), r(false, ints(2), ints(4))
	numbers := map[string]wrongNumber{
		"Re rough, Im too long": {g(rough, long), api.ErrNormal},
		"Re too long, Im rough": {g(long, rough), api.ErrLong},
		"nothing":               {api.Gauss{}, api.ErrNormal},
	}
	for i, w := range []struct {
		a    api.Ratio
		want api.Errno
	}{
		{long, api.ErrLong}, {r(true, ints(1), full(2049, 1)), api.ErrLong}, {r(true, full(2049, 0), nil), api.ErrLong},
		{api.Ratio{}, api.ErrNormal}, {r(false, ints(1), ints(0)), api.ErrNormal}, {r(true, nil, ints(1)), api.ErrNormal}, {r(false, nil, ints(2)), api.ErrNormal},
		{rough, api.ErrNormal}, {r(false, ints(1, 0), ints(2)), api.ErrNormal}, {r(false, ints(1), ints(2, 0)), api.ErrNormal},
	} {
		numbers["Re "+strconv.Itoa(i)] = wrongNumber{g(w.a, q(1, 2)), w.want}
		numbers["Im "+strconv.Itoa(i)] = wrongNumber{g(q(-1, 2), w.a), w.want}
	}
	return numbers
}

// dice is a source of numbers that is the same at each run.
type dice uint64

func (d *dice) next() uint64 {
	*d = *d*6364136223846793005 + 1442695040888963407
	x := uint64(*d)
	return x ^ x>>29
}

func (d *dice) below(k int) int { return int(d.next() >> 11 % uint64(k)) }

// small throws a number with parts of one digit, often 0.
func (d *dice) small() api.Gauss {
	part := func() api.Ratio {
		if d.below(3) > 0 {
			return q(int64(d.below(3)-1), 1)
		}
		return q(int64(d.below(13)-6), int64(1+d.below(4)))
	}
	return g(part(), part())
}

// smalls throws so many of these, smallRows rows of them.
func (d *dice) smalls(k int) []api.Gauss {
	l := make([]api.Gauss, k)
	for i := range l {
		l[i] = d.small()
	}
	return l
}

func (d *dice) smallRows(rows, columns int) [][]api.Gauss {
	var m [][]api.Gauss
	for range rows {
		m = append(m, d.smalls(columns))
	}
	return m
}

// numbers throws so many complex fractions of a few words.
func (d *dice) numbers(k int) []api.Gauss {
	l := make([]api.Gauss, k)
	for i := range l {
		l[i] = g(d.fraction(), d.fraction())
	}
	return l
}

func (d *dice) fraction() api.Ratio {
	num, den := new(big.Int), big.NewInt(1)
	for range d.below(3) {
		num.Add(num.Lsh(num, 31), big.NewInt(int64(d.below(1<<31))))
		den.Add(den.Lsh(den, 31), big.NewInt(int64(d.below(1<<31))))
	}
	if d.below(2) == 0 {
		num.Neg(num)
	}
	return fraction(new(big.Rat).SetFrac(num, den))
}

// wordsOver throws so many words over as many.
func (d *dice) wordsOver(words int) api.Ratio {
	whole := func() *big.Int {
		n := big.NewInt(1)
		for range words {
			n.Add(n.Lsh(n, 32), big.NewInt(int64(d.below(1<<32))))
		}
		return n
	}
	return fraction(new(big.Rat).SetFrac(whole(), whole()))
}

// dependent makes, in some throws, a row out of the others, so that there is not just one answer.
func (d *dice) dependent(m [][]api.Gauss) [][]api.Gauss {
	if len(m) < 2 || d.below(2) == 0 {
		return m
	}
	j := d.below(len(m))
	sum := make([]plane, len(m[j]))
	for k := range sum {
		sum[k] = planeOf(z(0, 0))
	}
	var w way
	for i, row := range m {
		factor := planeOf(d.small())
		for k, a := range row {
			if i != j {
				sum[k] = w.plus(sum[k], w.times(factor, planeOf(a)))
			}
		}
	}
	for k, a := range sum {
		m[j][k] = a.gauss()
	}
	return m
}

// text tells a matrix, for what a test has to say of it.
func text(m [][]api.Gauss) string {
	var b strings.Builder
	for _, row := range m {
		for k, a := range row {
			if k > 0 {
				b.WriteString(", ")
			}
			s, _ := gauss.Print(a)
			b.WriteString(s[:min(len(s), 60)])
		}
		b.WriteString("; ")
	}
	return b.String()
}
