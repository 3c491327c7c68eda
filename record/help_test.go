package record_test

import (
	"math"
	"slices"
	"testing"

	"slackwater/api"
	"slackwater/record"
)

const top = api.MaxTick

// s writes a sample.
func s(tick int, height float64) api.Sample { return api.Sample{Tick: tick, Height: height} }

// minus is -0.
func minus() float64 { return math.Copysign(0, -1) }

// beyond are numbers that are no ticks.
func beyond() []int {
	return []int{-1, -2, -24, top + 1, top + 2, 2 * top, 1 << 31, 1 << 32, 1<<32 + 3, 1 << 62, -1 << 31, -1 << 32, 3 - 1<<32, -1 << 62, math.MaxInt, math.MaxInt - 1, math.MinInt, math.MinInt + 1}
}

// numbers are heights of samples that are ones, up to the ends of the floats.
func numbers() []float64 {
	const least, normal = math.SmallestNonzeroFloat64, 0x1p-1022
	return []float64{0, minus(), 1, -1, 1.5, 0.1, -2.25, least, -least, normal, -normal, math.Nextafter(normal, 0), math.MaxFloat64, -math.MaxFloat64, math.Nextafter(math.MaxFloat64, 0), 1e308, 9007199254740993, math.Pi}
}

// noNumbers are heights of samples that are none: both infinities, NaN with either sign and other bits.
func noNumbers() []float64 {
	l := []float64{math.NaN(), math.Inf(1), math.Inf(-1)}
	for _, bits := range []uint64{0x7ff0000000000001, 0x7ff8000000000000, 0x7fffffffffffffff, 0xfff0000000000001, 0xfff8000000000000, 0xffffffffffffffff} {
		l = append(l, math.Float64frombits(bits))
	}
	return l
}

// finite tells by the exponent's bits whether a height is a number.
func finite(x float64) bool { return math.Float64bits(x)>>52&0x7ff != 0x7ff }

// same holds two lists against each other, heights by their bits.
func same(l, k []api.Sample) bool {
	return slices.EqualFunc(l, k, func(a, b api.Sample) bool {
		return a.Tick == b.Tick && math.Float64bits(a.Height) == math.Float64bits(b.Height)
	})
}

// must makes a record of samples none of which is refused.
func must(t *testing.T, l ...api.Sample) *record.Record {
	t.Helper()
	r, f := record.From(l)
	if r == nil || f != (api.Fault{}) {
		t.Fatalf("From of %d samples: %v", len(l), f)
	}
	return r
}

// model is what a record has, in any order: each question is answered by looking at all of it.
type model []api.Sample

func (m model) at(tick int) int {
	return slices.IndexFunc(m, func(x api.Sample) bool { return x.Tick == tick })
}

// split tells those that are ones, and the ticks of the others, rising.
func (m model) split() (ones []api.Sample, lost []int) {
	sorted := slices.Clone(m)
	slices.SortFunc(sorted, func(a, b api.Sample) int { return a.Tick - b.Tick })
	for _, x := range sorted {
		if finite(x.Height) {
			ones = append(ones, x)
		} else {
			lost = append(lost, x.Tick)
		}
	}
	return ones, lost
}

func (m model) between(a, b int) (l []api.Sample) {
	ones, _ := m.split()
	for _, x := range ones {
		if a <= x.Tick && x.Tick < b {
			l = append(l, x)
		}
	}
	return l
}

// gaps goes over a span tick by tick.
func (m model) gaps(a, b int) (l [][2]int) {
	ones := map[int]bool{}
	for _, x := range m {
		ones[x.Tick] = finite(x.Height)
	}
	inside := false
	for tick := a; tick < b; tick++ {
		switch {
		case ones[tick]:
			inside = false
		case inside:
			l[len(l)-1][1]++
		default:
			l = append(l, [2]int{tick, 1})
			inside = true
		}
	}
	return l
}

// collect goes over a record's samples.
func collect(r *record.Record) (l []api.Sample) {
	for tick, height := range r.All() {
		l = append(l, s(tick, height))
	}
	return l
}

// holds asks a record all that it can be asked, but for spans.
func holds(t *testing.T, key string, r *record.Record, m model) {
	t.Helper()
	ones, lost := m.split()
	if n := r.Len(); n != len(ones) {
		t.Errorf("%s: Len %d, not %d", key, n, len(ones))
	}
	if l := r.Lost(); !slices.Equal(l, lost) {
		t.Errorf("%s: Lost %v, not %v", key, l, lost)
	}
	if l := r.Samples(); !same(l, ones) {
		t.Errorf("%s: Samples %v, not %v", key, l, ones)
	}
	if l := collect(r); !same(l, ones) {
		t.Errorf("%s: All %v, not %v", key, l, ones)
	}
	for _, x := range m {
		for _, tick := range []int{x.Tick - 1, x.Tick, x.Tick + 1} {
			holdsAt(t, key, r, m, tick)
		}
	}
	for _, tick := range append(beyond(), 0, 1, top-1, top) {
		holdsAt(t, key, r, m, tick)
	}
}

func holdsAt(t *testing.T, key string, r *record.Record, m model, tick int) {
	t.Helper()
	var want float64
	i := m.at(tick)
	is := i >= 0 && finite(m[i].Height)
	if is {
		want = m[i].Height
	}
	if x, ok := r.At(tick); ok != is || math.Float64bits(x) != math.Float64bits(want) {
		t.Errorf("%s: At(%d) %v, %v; not %v, %v", key, tick, x, ok, want, is)
	}
}

// holdsSpan asks a record for a span's gaps and samples.
func holdsSpan(t *testing.T, key string, r *record.Record, m model, a, b int) {
	t.Helper()
	if l, e := r.Gaps(a, b); e != api.OK || !slices.Equal(l, m.gaps(a, b)) {
		t.Errorf("%s: Gaps(%d, %d) %v, %v; not %v", key, a, b, l, e, m.gaps(a, b))
	}
	if l, e := r.Between(a, b); e != api.OK || !same(l, m.between(a, b)) {
		t.Errorf("%s: Between(%d, %d) %v, %v; not %v", key, a, b, l, e, m.between(a, b))
	}
}

// dice is a source of numbers that is the same at each run.
type dice uint64

func (d *dice) next() uint64 {
	*d = *d*6364136223846793005 + 1442695040888963407
	x := uint64(*d)
	return x ^ x>>29
}

func (d *dice) below(k int) int { return int(d.next() >> 11 % uint64(k)) }

// height throws a height: any bits, or one of the edges.
func (d *dice) height() float64 {
	edges := append(numbers(), noNumbers()...)
	if d.below(2) == 0 {
		return edges[d.below(len(edges))]
	}
	return math.Float64frombits(d.next())
}

// samples throws samples at unlike ticks below a limit, in no order.
func (d *dice) samples(count, limit int) (m model) {
	ticks := map[int]bool{}
	for len(m) < count {
		tick := d.below(limit)
		if !ticks[tick] {
			ticks[tick] = true
			m = append(m, s(tick, d.height()))
		}
	}
	return m
}

// shuffled is a list in another order.
func (d *dice) shuffled(m model) model {
	l := slices.Clone(m)
	for i := len(l) - 1; i > 0; i-- {
		j := d.below(i + 1)
		l[i], l[j] = l[j], l[i]
	}
	return l
}
