package clean_test

import (
	"math"
	"math/big"
	"slices"
	"testing"

	"slackwater/api"
	"slackwater/clean"
)

const (
	top      = api.MaxTick
	least    = math.SmallestNonzeroFloat64
	normal   = 0x1p-1022
	greatest = math.MaxFloat64
)

// s writes a sample.
func s(tick int, height float64) api.Sample { return api.Sample{Tick: tick, Height: height} }

// heights writes samples with the ticks 0, 1, 2 and so on.
func heights(l ...float64) (samples []api.Sample) {
	for i, x := range l {
		samples = append(samples, s(i, x))
	}
	return samples
}

// minus is -0.
func minus() float64 { return math.Copysign(0, -1) }

// noTicks are numbers that are no ticks.
func noTicks() []int {
	return []int{-1, -2, top + 1, top + 2, 1 << 31, 1 << 32, 1<<32 + 3, 1 << 62, -1 << 31, 3 - 1<<32, math.MaxInt, math.MinInt, math.MinInt + 1}
}

// numbers are finite heights, up to the ends of the floats.
func numbers() []float64 {
	return []float64{0, minus(), 1, -1, 1.5, 0.1, -2.25, least, -least, 3 * least, -3 * least, normal, -normal, 2 * normal, math.Nextafter(normal, 0), greatest, -greatest, math.Nextafter(greatest, 0), 1e308, -1e308, 9007199254740993, 1.0 / 3, math.Pi}
}

// noNumbers are heights of samples that are none: both infinities, NaN with either sign and other bits.
func noNumbers() []float64 {
	l := []float64{math.NaN(), math.Inf(1), math.Inf(-1)}
	for _, bits := range []uint64{0x7ff0000000000001, 0x7ff8000000000000, 0x7fffffffffffffff, 0xfff0000000000001, 0xfff8000000000000, 0xffffffffffffffff} {
		l = append(l, math.Float64frombits(bits))
	}
	return l
}

// finite tells by the exponent's bits whether a height is a number.
func finite(x float64) bool { return math.Float64bits(x)>>52&0x7ff != 0x7ff }

// bare tells whether x is +0, to the bit.
func bare(x float64) bool { return math.Float64bits(x) == 0 }

// alike holds two heights against each other by their bits; NaN are one.
func alike(x, y float64) bool {
	return math.Float64bits(x) == math.Float64bits(y) || x != x && y != y
}

// same holds two lists against each other, heights by their bits.
func same(l, k []api.Sample) bool {
	return slices.EqualFunc(l, k, func(a, b api.Sample) bool { return a.Tick == b.Tick && alike(a.Height, b.Height) })
}

// equal holds two lists against each other, heights by ==.
func equal(l, k []api.Sample) bool { return slices.Equal(l, k) }

// repeat is a list of one thing so many times.
func repeat[T any](x T, count int) []T { return slices.Repeat([]T{x}, count) }

// dice is a source of numbers that is the same at each run.
type dice uint64

func (d *dice) next() uint64 {
	*d = *d*6364136223846793005 + 1442695040888963407
	x := uint64(*d)
	return x ^ x>>29
}

func (d *dice) below(k int) int { return int(d.next() >> 11 % uint64(k)) }

// height throws a height: any bits, one of the edges, or a plain one with a fraction.
func (d *dice) height() float64 {
	switch d.below(4) {
	case 0:
		l := append(numbers(), noNumbers()...)
		return l[d.below(len(l))]
	case 1:
		return math.Float64frombits(d.next())
	}
	return float64(d.below(2000)-1000) / 7
}

// great throws a height that may go beyond the floats together with another one, or a plain one.
func (d *dice) great() float64 {
	if d.below(4) > 0 {
		return d.plain()
	}
	return math.Ldexp(float64(d.below(2001)-1000)/1001, 1024)
}

// plain throws a finite height of no great size.
func (d *dice) plain() float64 { return float64(int64(d.next())>>40) / 12345 }

func (d *dice) list(count int, throw func() float64) (l []float64) {
	for range count {
		l = append(l, throw())
	}
	return l
}

// samples throws samples at ticks below a limit, in any order, a tick more than once.
func (d *dice) samples(count, limit int, throw func() float64) (l []api.Sample) {
	for range count {
		l = append(l, s(d.below(limit), throw()))
	}
	return l
}

// rise throws samples whose ticks rise by 1 to step.
func (d *dice) rise(count, step int, throw func() float64) (l []api.Sample) {
	tick := d.below(step)
	for range count {
		l = append(l, s(tick, throw()))
		tick += 1 + d.below(step)
	}
	return l
}

// shuffled is a list in another order.
func shuffled[T any](d *dice, was []T) []T {
	l := slices.Clone(was)
	for i := len(l) - 1; i > 0; i-- {
		j := d.below(i + 1)
		l[i], l[j] = l[j], l[i]
	}
	return l
}

// The steps below go through exact fractions and are rounded once at their end, so that none can be joined with another. Beyond the floats they tell an infinity.
func fraction(x float64) *big.Rat { return new(big.Rat).SetFloat64(x) }

func nearest(r *big.Rat) float64 {
	x, _ := r.Float64()
	return x
}

func step(a, b float64, work func(z, x, y *big.Rat) *big.Rat) float64 {
	if !finite(a) {
		return a
	}
	return nearest(work(new(big.Rat), fraction(a), fraction(b)))
}

func plus(a, b float64) float64  { return step(a, b, (*big.Rat).Add) }
func less(a, b float64) float64  { return step(a, b, (*big.Rat).Sub) }
func times(a, b float64) float64 { return step(a, b, (*big.Rat).Mul) }
func over(a, b float64) float64  { return step(a, b, (*big.Rat).Quo) }

// order is where a height stands: the bits of the floats below 0 go the other way round.
func order(x float64) int64 {
	b := int64(math.Float64bits(x))
	if b < 0 {
		return math.MinInt64 - b - 1
	}
	return b
}

// sorted picks the finite heights out, the least of the rest each time.
func sorted(l []float64) (k []float64) {
	for _, x := range l {
		if finite(x) {
			at := 0
			for at < len(k) && order(k[at]) <= order(x) {
				at++
			}
			k = slices.Insert(k, at, x)
		}
	}
	return k
}

// meanOf is the mean by its words, and whether it is finite.
func meanOf(l []float64) (float64, bool) {
	k := sorted(l)
	if len(k) == 0 {
		return 0, true
	}
	sum := 0.0
	for _, x := range k {
		if sum = plus(sum, x); !finite(sum) {
			return 0, false
		}
	}
	return over(sum, float64(len(k))), true
}

// medianOf is the median by its words, and whether there is one.
func medianOf(l []float64) (float64, bool) {
	k := sorted(l)
	switch n := len(k); {
	case n == 0:
		return 0, false
	case n%2 == 0:
		return plus(times(k[n/2-1], 0.5), times(k[n/2], 0.5)), true
	default:
		return k[(n-1)/2], true
	}
}

// filled tells what Fill told, which must not be refused.
func filled(t *testing.T, l []api.Sample) []api.Sample {
	t.Helper()
	k, e := clean.Fill(l)
	if e != api.OK {
		t.Fatalf("Fill of %d samples: %v", len(l), e)
	}
	return k
}

// merged tells what Merge told, which must not be refused.
func merged(t *testing.T, l ...[]api.Sample) []api.Sample {
	t.Helper()
	k, f := clean.Merge(l)
	if f != (api.Fault{}) {
		t.Fatalf("Merge of %d lists: %v", len(l), f)
	}
	return k
}
