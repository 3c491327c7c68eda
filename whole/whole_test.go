package whole_test

import (
	"cmp"
	"math"
	"slices"
	"testing"

	"slackwater/api"
	"slackwater/whole"
)

// P2.1

func TestCheck(t *testing.T) {
	for _, c := range []struct {
		a    api.Whole
		want api.Errno
	}{
		{api.Whole{}, api.OK}, {w(false, []uint32{}...), api.OK}, {n(1), api.OK}, {n(-1), api.OK}, {w(true, 0, 1), api.OK},
		{full(false, 2048, 1), api.OK}, {full(true, 2048, 1<<32-1), api.OK}, {powerOfTwo(true, 65535), api.OK},
		{w(false, 1, 0), api.ErrNormal}, {w(true, 1, 0), api.ErrNormal}, {w(false, 0), api.ErrNormal}, {w(true, 0), api.ErrNormal},
		{w(true), api.ErrNormal}, {api.Whole{Neg: true, Words: []uint32{}}, api.ErrNormal}, {full(false, 2048, 0), api.ErrNormal},
		{full(false, 2049, 0), api.ErrLong}, {full(true, 2049, 0), api.ErrLong}, {full(false, 2049, 1), api.ErrLong},
		{powerOfTwo(false, 65536), api.ErrLong}, {full(true, 8192, 1), api.ErrLong}, {full(true, 8193, 1), api.ErrLong}, {full(false, 100000, 0), api.ErrLong},
	} {
		if e := whole.Check(c.a); e != c.want {
			t.Errorf("Check of Neg %v and %d words: %v, not %v", c.a.Neg, len(c.a.Words), e, c.want)
		}
	}
}

// wrong are numbers that may not be, each with its error.
func wrong() map[string]struct {
	a    api.Whole
	want api.Errno
} {
	return map[string]struct {
		a    api.Whole
		want api.Errno
	}{
		"too long":              {full(false, 2049, 1), api.ErrLong},
		"too long, for nat too": {full(true, 8193, 1), api.ErrLong},
		"too long and rough":    {full(false, 2049, 0), api.ErrLong},
		"too long, rough, Neg":  {full(true, 8193, 0), api.ErrLong},
		"rough":                 {w(false, 5, 0), api.ErrNormal},
		"a nought":              {w(false, 0), api.ErrNormal},
		"Neg of no words":       {w(true), api.ErrNormal},
	}
}

func TestWrongNumbersAreRefused(t *testing.T) {
	for name, c := range wrong() {
		for call, f := range ofOne() {
			// ahead of Power's ErrArg, too
			got, e := f(c.a)
			refused(t, call+" of "+name, got, e, c.want)
		}
		if s, e := whole.Sign(c.a); s != 0 || e != c.want {
			t.Errorf("Sign of %s: %d %v", name, s, e)
		}
		if s, e := whole.Print(c.a); s != "" || e != c.want {
			t.Errorf("Print of %s: %q %v", name, s, e)
		}
		if x, ok := whole.Int64(c.a); x != 0 || ok {
			t.Errorf("Int64 of %s: %d %v", name, x, ok)
		}
	}
}

func TestTheFirstNumbersErrorIsAhead(t *testing.T) {
	for first, a := range wrong() {
		for _, b := range []api.Whole{n(0), n(1), full(false, 2049, 1), w(false, 5, 0), w(true)} {
			for call, f := range ofTwo() {
				// ahead of the second one's, and of ErrZero
				got, e := f(a.a, b)
				refused(t, call+" of "+first, got, e, a.want)
			}
			if c, e := whole.Compare(a.a, b); c != 0 || e != a.want {
				t.Errorf("Compare of %s: %d %v", first, c, e)
			}
		}
		for _, b := range []api.Whole{n(0), n(1), n(-5), full(true, 2048, 1<<32-1)} {
			for call, f := range ofTwo() {
				got, e := f(b, a.a)
				refused(t, call+" with "+first, got, e, a.want)
			}
			if c, e := whole.Compare(b, a.a); c != 0 || e != a.want {
				t.Errorf("Compare with %s: %d %v", first, c, e)
			}
		}
	}
}

func TestWhatIsTooLongIsRefused(t *testing.T) {
	greatest, least := full(false, 2048, 1<<32-1), full(true, 2048, 1<<32-1)
	for _, c := range []struct {
		call string
		a, b api.Whole
	}{
		{"Add", greatest, n(1)}, {"Add", n(1), greatest}, {"Add", least, n(-1)}, {"Add", powerOfTwo(false, 65535), powerOfTwo(false, 65535)}, {"Add", greatest, greatest},
		{"Sub", greatest, n(-1)}, {"Sub", least, n(1)}, {"Sub", n(1), least}, {"Sub", n(-1), greatest}, {"Sub", greatest, least},
		{"Mul", powerOfTwo(false, 65535), n(2)}, {"Mul", n(-2), powerOfTwo(false, 65535)}, {"Mul", greatest, greatest}, {"Mul", greatest, least}, {"Mul", greatest, n(2)},
		{"Mul", powerOfTwo(true, 32768), powerOfTwo(true, 32768)},
	} {
		got, e := ofTwo()[c.call](c.a, c.b)
		refused(t, c.call+" above 2,048 words", got, e, api.ErrLong)
	}
}

func TestJustNotTooLong(t *testing.T) {
	ok := must(t)
	greatest, least := full(false, 2048, 1<<32-1), full(true, 2048, 1<<32-1)
	almost := full(false, 2048, 1<<32-1)
	almost.Words[0]--
	for _, c := range []struct {
		call       string
		a, b, want api.Whole
	}{
		{"Add", almost, n(1), greatest}, {"Add", greatest, n(-1), almost}, {"Add", greatest, least, n(0)}, {"Add", opposite(almost), n(-1), least},
		{"Sub", almost, n(-1), greatest}, {"Sub", least, least, n(0)}, {"Sub", opposite(almost), n(1), least}, {"Sub", n(0), greatest, least},
		{"Mul", greatest, n(-1), least}, {"Mul", powerOfTwo(false, 32767), powerOfTwo(true, 32768), powerOfTwo(true, 65535)},
		{"Mul", full(true, 2048, 0x11111111), n(-15), greatest}, {"Mul", greatest, n(0), n(0)},
		{"DivMod's first", least, n(1), least}, {"DivMod's second", least, n(1), n(0)}, {"DivMod's first", least, n(-1), greatest},
		{"DivMod's first", powerOfTwo(true, 65535), n(2), powerOfTwo(true, 65534)}, {"DivMod's first", n(-1), greatest, n(-1)}, {"DivMod's second", n(-1), greatest, almost},
		{"Gcd", least, n(0), greatest}, {"Gcd", greatest, least, greatest},
	} {
		if got := ok(ofTwo()[c.call](c.a, c.b)); !same(got, c.want) {
			t.Errorf("%s of %d and %d words: Neg %v, %d words", c.call, len(c.a.Words), len(c.b.Words), got.Neg, len(got.Words))
		}
	}
}

// P2.2

func TestOf(t *testing.T) {
	for _, c := range []struct {
		n    int64
		want api.Whole
	}{
		{0, w(false)}, {1, w(false, 1)}, {-1, w(true, 1)}, {1<<32 - 1, w(false, 1<<32-1)}, {1 << 32, w(false, 0, 1)}, {-1 << 32, w(true, 0, 1)},
		{math.MaxInt64, w(false, 1<<32-1, 1<<31-1)}, {math.MinInt64 + 1, w(true, 1<<32-1, 1<<31-1)}, {math.MinInt64, w(true, 0, 1<<31)},
	} {
		if got := whole.Of(c.n); !same(got, c.want) {
			t.Errorf("Of(%d): %v", c.n, got)
		}
		if got, ok := whole.Int64(c.want); got != c.n || !ok {
			t.Errorf("Int64 of %d: %d %v", c.n, got, ok)
		}
	}
}

func TestInt64OfWhatDoesNotFit(t *testing.T) {
	for _, a := range []api.Whole{
		w(false, 0, 1<<31), w(true, 1, 1<<31), w(false, 1<<32-1, 1<<32-1), w(true, 1<<32-1, 1<<32-1), w(false, 0, 0, 1), w(true, 0, 0, 1),
		full(true, 2048, 1), w(false, 0), w(true), w(true, 5, 0), full(false, 2049, 0), full(false, 9000, 0),
	} {
		if got, ok := whole.Int64(a); got != 0 || ok {
			t.Errorf("Int64 of Neg %v and %d words: %d %v", a.Neg, len(a.Words), got, ok)
		}
	}
}

func TestSignAndCompare(t *testing.T) {
	for _, x := range edges() {
		if s, e := whole.Sign(n(x)); s != cmp.Compare(x, 0) || e != api.OK {
			t.Errorf("Sign of %d: %d %v", x, s, e)
		}
		for _, y := range edges() {
			if c, e := whole.Compare(n(x), n(y)); c != cmp.Compare(x, y) || e != api.OK {
				t.Errorf("Compare of %d and %d: %d %v", x, y, c, e)
			}
		}
	}
	if s, e := whole.Sign(full(true, 2048, 7)); s != -1 || e != api.OK {
		t.Errorf("Sign of 2,048 words: %d %v", s, e)
	}
}

func TestCompareOfLongNumbers(t *testing.T) {
	rising := []api.Whole{
		full(true, 2048, 1<<32-1), powerOfTwo(true, 65535), w(true, 5, 6, 8), w(true, 6, 6, 7), w(true, 5, 6, 7), w(true, 9, 9), w(true, 1), w(false),
		w(false, 1), w(false, 9, 9), w(false, 5, 6, 7), w(false, 6, 6, 7), w(false, 5, 6, 8), powerOfTwo(false, 65535), full(false, 2048, 1<<32-1),
	}
	for i, a := range rising {
		for j, b := range rising {
			if c, e := whole.Compare(a, b); c != cmp.Compare(i, j) || e != api.OK {
				t.Errorf("Compare of the places %d and %d: %d %v", i, j, c, e)
			}
		}
	}
}

// Answers are new memory, and what is handed in stays as it is, its spare room too.

// marked is a number in memory of its own with marked words behind it.
func marked(a api.Whole) api.Whole {
	words := append(slices.Clone(a.Words), 77, 78, 79)
	return api.Whole{Neg: a.Neg, Words: words[:len(a.Words)]}
}

func untouched(a, was api.Whole) bool {
	size := len(was.Words)
	return same(a, was) && slices.Equal(a.Words[size:size+3], []uint32{77, 78, 79})
}

// scribble writes over an answer and its spare room.
func scribble(a api.Whole) {
	all := a.Words[:cap(a.Words)]
	for i := range all {
		all[i] = 12345
	}
}

func TestAnswersAreNewMemory(t *testing.T) {
	numbers := []api.Whole{n(0), n(1), n(-1), n(5), n(-12), n(1 << 40), w(true, 1, 2, 3), w(false, 1, 2, 3), w(true, 9, 9, 9, 9)}
	for _, x := range numbers {
		for call, f := range ofOne() {
			a := marked(x)
			got, _ := f(a)
			scribble(got)
			if !untouched(a, x) {
				t.Errorf("%s of %v changes or hands out its argument", call, x)
			}
		}
		for _, y := range numbers {
			for call, f := range ofTwo() {
				a, b := marked(x), marked(y)
				got, _ := f(a, b)
				scribble(got)
				if !untouched(a, x) || !untouched(b, y) {
					t.Errorf("%s of %v and %v changes or hands out an argument", call, x, y)
				}
			}
			q, r, _ := whole.DivMod(x, y)
			was := slices.Clone(r.Words)
			scribble(q)
			if !slices.Equal(r.Words, was) {
				t.Errorf("DivMod of %v and %v: both answers share memory", x, y)
			}
		}
	}
}

func TestOneNumberAsBothArguments(t *testing.T) {
	ok := must(t)
	a := marked(w(true, 3, 4, 5))
	for call, want := range map[string]api.Whole{
		"Add": w(true, 6, 8, 10), "Sub": n(0), "Mul": w(false, 9, 24, 46, 40, 25), "DivMod's first": n(1), "DivMod's second": n(0), "Gcd": w(false, 3, 4, 5),
	} {
		if got := ok(ofTwo()[call](a, a)); !same(got, want) || !untouched(a, w(true, 3, 4, 5)) {
			t.Errorf("%s of a number and itself: %v", call, got)
		}
	}
}
