package turn_test

import (
	"math"
	"testing"

	"slackwater/api"
	"slackwater/turn"
)

const top = 1 << 32 // the greatest Whole

// at writes a turn as it stands.
func at(part, whole int64) api.Turn { return api.Turn{Part: part, Whole: whole} }

// of is the turn part over whole, which must be told.
func of(t *testing.T, part, whole int64) api.Turn {
	t.Helper()
	return must(t)(turn.Of(part, whole))
}

// must hands on a turn that may not be refused, and that may be.
func must(t *testing.T) func(a api.Turn, e api.Errno) api.Turn {
	return func(a api.Turn, e api.Errno) api.Turn {
		t.Helper()
		if e != api.OK || turn.Check(a) != api.OK {
			t.Fatalf("answered %v, %v", a, e)
		}
		return a
	}
}

// edges are turns that may be, the nearest to nought, to whole turns and to eighths among them.
func edges() (l []api.Turn) {
	l = append(l, at(0, 1), at(1, 2), at(1, 3), at(2, 3), at(1, 4), at(3, 4), at(1, 6), at(5, 6), at(1, 12), at(2, 5))
	for p := int64(1); p < 8; p += 2 {
		l = append(l, at(p, 8), at(p, 16), at(p*(top/8)-1, top), at(p*(top/8)+1, top))
	}
	return append(l, at(1, top), at(top-1, top), at(top/2-1, top), at(top/2+1, top), at(top/4-1, top), at(3*(top/4)+1, top),
		at(1, top-1), at(top-2, top-1), at(1, top/2), at(top/2-1, top/2), at(1, 4294967291), at(4294967290, 4294967291), at(1717986918, 4294967291), at(65535, 65536), at(1, 65537), at(989, 56250), at(1, api.Circle), at(api.Circle-1, api.Circle))
}

// wrong are turns that may not be.
func wrong() []api.Turn {
	const least, most = math.MinInt64, math.MaxInt64
	return []api.Turn{
		{}, at(0, 2), at(0, top), at(0, -1), at(1, 0), at(1, 1), at(2, 1), at(2, 2), at(3, 2), at(2, 4), at(6, 4), at(4, 4), at(3, 9), at(-1, 4), at(-3, 4), at(1, -4), at(-1, -4), at(5, 4),
		at(1, top+1), at(top, top+1), at(0, top+1), at(2, top), at(top-2, top), at(top, top), at(top+1, top), at(-1, top), at(3, top-1), at(1, most), at(most-1, most), at(most, most), at(least, least), at(least, 1), at(most, 1), at(0, least), at(least, most), at(1, least), at(least+1, top), at(1, top+4),
	}
}

// dice is a source of numbers that is the same at each run.
type dice uint64

func (d *dice) next() uint64 {
	*d = *d*6364136223846793005 + 1442695040888963407
	x := uint64(*d)
	return x ^ x>>29
}

func (d *dice) below(k int64) int64 { return int64(d.next() >> 11 % uint64(k)) }

// turn throws a turn: at an edge, of a small Whole, of a Whole with small divisors, of any.
func (d *dice) turn(t *testing.T) api.Turn {
	t.Helper()
	switch d.below(5) {
	case 0:
		return edges()[d.below(int64(len(edges())))]
	case 1:
		whole := 1 + d.below(60)
		return of(t, d.below(whole), whole)
	case 2:
		whole := 1 + d.below(65536)
		return of(t, d.below(whole), whole)
	case 3:
		whole := int64(1) << d.below(17) * []int64{1, 3, 5, 9, 15, 25, 45, 225}[d.below(8)] * []int64{1, 1, 7, 49}[d.below(4)]
		return of(t, d.below(whole), whole)
	}
	whole := 1 + d.below(top)
	return of(t, d.below(whole), whole)
}
