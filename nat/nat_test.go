package nat_test

import (
	"testing"

	"slackwater/api"
	"slackwater/nat"
)

// P1.1

func TestCheck(t *testing.T) {
	long := full(8193, 0)
	for _, c := range []struct {
		a    []uint32
		want api.Errno
	}{
		{nil, api.OK}, {w(), api.OK}, {w(5), api.OK}, {w(0, 1), api.OK},
		{w(0), api.ErrNormal}, {w(5, 0), api.ErrNormal}, {full(8192, 0), api.ErrNormal},
		{full(8192, 1), api.OK}, {full(8193, 1), api.ErrLong}, {long, api.ErrLong},
	} {
		if e := nat.Check(c.a); e != c.want {
			t.Errorf("Check of %d words: %v, not %v", len(c.a), e, c.want)
		}
	}
}

func TestTrim(t *testing.T) {
	for _, c := range []struct{ a, want []uint32 }{
		{nil, nil}, {w(0), nil}, {w(0, 0, 0), nil}, {w(5), w(5)}, {w(5, 0, 0), w(5)},
		{w(0, 5, 0), w(0, 5)}, {w(1, 2, 3), w(1, 2, 3)}, {full(20000, 0), nil},
		{append(full(9000, 7), 0, 0), full(9000, 7)},
	} {
		if got := nat.Trim(c.a); !same(got, c.want) {
			t.Errorf("Trim of %d words: %d words, not %d", len(c.a), len(got), len(c.want))
		}
	}
}

func TestCompare(t *testing.T) {
	for _, c := range []struct {
		a, b []uint32
		want int
	}{
		{nil, nil, 0}, {nil, w(0, 0), 0}, {w(5, 0), w(5), 0}, {w(5), w(5, 0, 0), 0},
		{nil, w(1), -1}, {w(4), w(5), -1}, {w(9), w(0, 1), -1}, {w(9, 0, 0, 0), w(0, 1), -1},
		{w(9, 1), w(0, 2), -1}, {w(1, 7, 3), w(2, 7, 3), -1}, {w(1<<31 - 1), w(1 << 31), -1}, {w(1), w(1<<32 - 1), -1},
		{full(9000, 1), append(full(8999, 1), 2), -1}, {full(9000, 1), append(full(9000, 1), 0), 0},
	} {
		if got := nat.Compare(c.a, c.b); got != c.want {
			t.Errorf("Compare(%v, %v): %d", c.a[:min(len(c.a), 4)], c.b[:min(len(c.b), 4)], got)
		}
		if got := nat.Compare(c.b, c.a); got != -c.want {
			t.Errorf("Compare(%v, %v): %d", c.b[:min(len(c.b), 4)], c.a[:min(len(c.a), 4)], got)
		}
	}
}

func TestBits(t *testing.T) {
	for _, c := range []struct {
		a    []uint32
		want int
	}{
		{nil, 0}, {w(0, 0), 0}, {w(1), 1}, {w(2), 2}, {w(255, 0), 8}, {w(256), 9}, {w(1<<32 - 1), 32},
		{w(0, 1), 33}, {w(0, 1<<31, 0), 64}, {full(8192, 1<<32-1), 262144}, {append(full(9999, 0), 1), 319969},
	} {
		if got := nat.Bits(c.a); got != c.want {
			t.Errorf("Bits of %d words: %d, not %d", len(c.a), got, c.want)
		}
	}
}

func TestSmallNumbers(t *testing.T) {
	for _, c := range []struct {
		x    uint64
		want []uint32
	}{
		{0, nil}, {1, w(1)}, {1<<32 - 1, w(1<<32 - 1)}, {1 << 32, w(0, 1)},
		{1<<63 + 5, w(5, 1<<31)}, {1<<64 - 1, w(1<<32-1, 1<<32-1)},
	} {
		if got := nat.Of(c.x); !same(got, c.want) {
			t.Errorf("Of(%d): %v", c.x, got)
		}
		if x, ok := nat.Uint64(append(c.want, 0, 0)); x != c.x || !ok {
			t.Errorf("Uint64(%v): %d, %v", c.want, x, ok)
		}
	}
	for _, a := range [][]uint32{w(0, 0, 1), w(7, 7, 7, 0), append(full(9000, 0), 1)} {
		if x, ok := nat.Uint64(a); x != 0 || ok {
			t.Errorf("Uint64 of %d words: %d, %v", len(a), x, ok)
		}
	}
}

// Rule 4 of the document: an answer is new memory, its spare room too, and what is handed in stays as it was.

// roomy copies a list into a greater one, whose further words are marked.
func roomy(a []uint32) []uint32 {
	room := append(full(0, 0), a...)
	room = append(room, 77, 77, 77)
	return room[:len(a)]
}

// asItWas tells whether a list from roomy is still a, and its further words are marked.
func asItWas(list, a []uint32) bool {
	return same(list, a) && same(list[len(a):len(a)+3], w(77, 77, 77))
}

// scribble writes over a list and its spare room.
func scribble(a []uint32) {
	a = a[:cap(a)]
	for i := range a {
		a[i] = 0xdddddddd
	}
}

func TestAnswersAreNewMemory(t *testing.T) {
	two := func(f func(a, b []uint32) ([]uint32, api.Errno)) func(a, b []uint32) [][]uint32 {
		return func(a, b []uint32) [][]uint32 {
			c, _ := f(a, b)
			return [][]uint32{c}
		}
	}
	calls := map[string]func(a, b []uint32) [][]uint32{
		"Trim": func(a, b []uint32) [][]uint32 { return [][]uint32{nat.Trim(a), nat.Trim(b)} },
		"Add":  two(nat.Add), "Sub": two(nat.Sub), "Mul": two(nat.Mul), "Gcd": two(nat.Gcd),
		"DivMod": func(a, b []uint32) [][]uint32 {
			q, r, _ := nat.DivMod(a, b)
			return [][]uint32{q, r}
		},
		"Shift": func(a, b []uint32) [][]uint32 {
			up, _ := nat.Shift(a, 33)
			none, _ := nat.Shift(a, 0)
			down, _ := nat.Shift(b, -1)
			return [][]uint32{up, none, down}
		},
		"Print": func(a, b []uint32) [][]uint32 {
			nat.Print(a)
			nat.Print(b)
			return nil
		},
	}
	lists := [][]uint32{nil, w(1), w(6), w(7, 9), w(0, 0, 1), w(5, 6, 7, 8), w(1, 2, 3, 4, 5, 6, 7, 8)}
	for name, call := range calls {
		for _, a := range lists {
			for _, b := range lists {
				first, second := roomy(a), roomy(b)
				answers := call(first, second)
				for i, answer := range answers {
					copies := make([][]uint32, len(answers))
					for j := range answers {
						copies[j] = append([]uint32(nil), answers[j]...)
					}
					scribble(answer)
					for j := range answers {
						if j != i && !same(answers[j], copies[j]) {
							t.Fatalf("%s(%v, %v): answers %d and %d share memory", name, a, b, i, j)
						}
					}
				}
				if !asItWas(first, a) || !asItWas(second, b) {
					t.Fatalf("%s(%v, %v): an argument was changed or handed out", name, a, b)
				}
			}
		}
	}
}

func TestOneListAsBothArguments(t *testing.T) {
	ok := must(t)
	a := w(3, 2, 1, 9)
	if !same(ok(nat.Sub(a, a)), nil) || !same(ok(nat.Gcd(a, a)), a) || !same(ok(nat.Add(a, a)), w(6, 4, 2, 18)) {
		t.Error("Sub, Gcd or Add of one list")
	}
	if q, r, e := nat.DivMod(a, a); !same(q, w(1)) || len(r) != 0 || e != api.OK {
		t.Error("DivMod of one list", q, r, e)
	}
	if !same(a, w(3, 2, 1, 9)) {
		t.Error("the list was changed", a)
	}
}
