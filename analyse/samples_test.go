package analyse_test

import (
	"math"
	"math/big"
	"slices"
	"strconv"
	"testing"

	"slackwater/api"
)

// P23.3

// s writes a sample.
func s(tick int, height float64) api.Sample { return api.Sample{Tick: tick, Height: height} }

// noNumbers are the heights that are none.
func noNumbers() []float64 {
	return []float64{math.NaN(), math.Inf(1), math.Inf(-1), math.Float64frombits(0xfff8000000000001), math.Float64frombits(0x7ff0000000000001)}
}

// samplesAt are samples at these ticks, a height that is none at every third.
func samplesAt(ticks []int) []api.Sample {
	var l []api.Sample
	for i, t := range ticks {
		x := float64(i*i%13) / 8
		if i%3 == 2 {
			x = noNumbers()[i/3%5]
		}
		l = append(l, s(t, x))
	}
	return l
}

// told is what Heights must answer of samples whose ticks may be.
func told(l []api.Sample) answer {
	var a answer
	for _, x := range l {
		if !math.IsNaN(x.Height) && !math.IsInf(x.Height, 0) {
			a.ticks, a.list = append(a.ticks, x.Tick), append(a.list, re(fraction(new(big.Rat).SetFloat64(x.Height))))
		}
	}
	return a
}

func TestHeights(t *testing.T) {
	nan := math.NaN()
	for key, c := range map[string]struct {
		l     []api.Sample
		ticks []int
		list  []string
	}{
		"one, and no number":    {[]api.Sample{s(3, 0.5), s(4, nan)}, []int{3}, []string{"1/2 0"}},
		"none":                  {nil, nil, nil},
		"an empty list":         {[]api.Sample{}, nil, nil},
		"no numbers alone":      {[]api.Sample{s(0, nan), s(1, math.Inf(1)), s(1024, math.Inf(-1))}, nil, nil},
		"whole ones":            {[]api.Sample{s(0, 1), s(7, -3), s(1024, 0)}, []int{0, 7, 1024}, []string{"1 0", "-3 0", "0 0"}},
		"both noughts":          {[]api.Sample{s(0, 0), s(1, math.Copysign(0, -1))}, []int{0, 1}, []string{"0 0", "0 0"}},
		"a tenth":               {[]api.Sample{s(5, 0.1)}, []int{5}, []string{"3602879701896397/36028797018963968 0"}},
		"no number ahead":       {[]api.Sample{s(0, nan), s(1, 2)}, []int{1}, []string{"2 0"}},
		"no number in between":  {[]api.Sample{s(0, 1), s(1, math.Inf(-1)), s(2, 3)}, []int{0, 2}, []string{"1 0", "3 0"}},
		"an eighth, below zero": {[]api.Sample{s(9, -0.375)}, []int{9}, []string{"-3/8 0"}},
	} {
		got := must(t, "Heights", given{samples: c.l})
		if !got.is(answer{ticks: c.ticks, list: read(t, c.list...)}) {
			t.Errorf("Heights of %s: not as it should be", key)
		}
	}
}

// The least and the greatest floats, and some that are thrown, among no numbers.
func TestHeightsOfFloats(t *testing.T) {
	edges := []float64{0x1p-1074, -0x1p-1074, 0x1p-1022, 0x1.fffffffffffffp-1023, math.MaxFloat64, -math.MaxFloat64, 1 + 0x1p-52, 0x1p1000, 1e300, -1e-300}
	l := make([]api.Sample, 0, 256)
	for i, x := range append(edges, noNumbers()...) {
		l = append(l, s(4*i+1, x))
	}
	d := dice(2305)
	for len(l) < 256 {
		l = append(l, s(4*len(l)+d.below(4), math.Float64frombits(d.next())))
	}
	if got := must(t, "Heights", given{samples: l}); !got.is(told(l)) || len(got.ticks) < 200 {
		t.Errorf("Heights of 256 floats: not as it should be")
	}
}

// The ticks of all samples are looked at, those of no numbers, too, and how many they are.
func TestHeightsRefuse(t *testing.T) {
	for key, w := range listsOfWrongTicks() {
		l := samplesAt(w.l)
		lost := slices.Clone(l)
		for i := range lost {
			lost[i].Height = noNumbers()[i%5]
		}
		for _, samples := range [][]api.Sample{l, lost} {
			refused(t, "Heights", key, given{samples: samples}, w.want)
			refused(t, "Samples", key, given{samples: samples}, w.want)
			refused(t, "Samples", key+", a rotor", given{samples: samples, rotors: pair()}, w.want)
			refused(t, "Samples", key+", wrong rotors", given{samples: samples, rotors: []api.Rotor{{}, {}}}, w.want)
			refused(t, "Samples", key+", too many rotors", given{samples: samples, rotors: make([]api.Rotor, 9)}, w.want)
		}
	}
	nan := math.NaN()
	for key, c := range map[string]struct {
		l    []api.Sample
		want api.Errno
	}{
		"a tick twice, once no number":        {[]api.Sample{s(3, 1), s(3, nan)}, api.ErrArg},
		"a tick twice, no number ahead":       {[]api.Sample{s(3, nan), s(3, 1)}, api.ErrArg},
		"no number at no tick":                {[]api.Sample{s(-1, nan), s(0, 1)}, api.ErrArg},
		"no number behind the last tick":      {[]api.Sample{s(0, 1), s(1025, nan)}, api.ErrArg},
		"at a tick of a record's, too late":   {[]api.Sample{s(2000, 1)}, api.ErrArg},
		"two that fall":                       {[]api.Sample{s(4, 1), s(3, 1)}, api.ErrArg},
		"256 that are ones, 257 in all":       {append(samplesOf(256), s(1000, nan)), api.ErrLong},
		"one that is one, 257 in all":         {append(samplesAt(span(0, 256)), s(1024, 1)), api.ErrLong},
		"4,097, more than a record has":       {samplesOf(4097), api.ErrLong},
		"257 that fall, no number among them": {append(samplesOf(256), s(0, 1)), api.ErrLong},
	} {
		refused(t, "Heights", key, given{samples: c.l}, c.want)
		refused(t, "Samples", key, given{samples: c.l, rotors: pair()}, c.want)
	}
}

// samplesOf are so many at the ticks from 0 on, all of them ones.
func samplesOf(k int) []api.Sample {
	var l []api.Sample
	for t := range k {
		l = append(l, s(t, float64(t%5)-1.5))
	}
	return l
}

func TestSamples(t *testing.T) {
	u, v := o(2, 1), o(2, -1)
	nan := math.NaN()
	for key, c := range map[string]struct {
		l      []api.Sample
		rotors []api.Rotor
		want   []string
	}{
		"one rotor":               {[]api.Sample{s(0, 1), s(1, 0)}, []api.Rotor{u}, []string{"1/2 0"}},
		"one rotor, no numbers":   {[]api.Sample{s(0, 1), s(1, 0), s(2, nan), s(9, math.Inf(1))}, []api.Rotor{u}, []string{"1/2 0"}},
		"no number where it is 0": {[]api.Sample{s(0, 1), s(1, nan)}, []api.Rotor{u}, []string{"1 0"}},
		"two rotors":              {[]api.Sample{s(0, 2), s(2, -0.5)}, []api.Rotor{u, v}, []string{"1 -1/32", "1 1/32"}},
		"no rotors":               {[]api.Sample{s(0, 2), s(1, 3)}, nil, nil},
		"no samples, no rotors":   {nil, nil, nil},
		"no numbers, no rotors":   {[]api.Sample{s(5, nan)}, nil, nil},
	} {
		got := must(t, "Samples", given{samples: c.l, rotors: c.rotors})
		if !got.is(answer{tides: tidesOf(c.rotors, read(t, c.want...))}) {
			t.Errorf("Samples, %s: not as it should be", key)
		}
	}
}

// Samples is what Exact makes of the ticks and heights that are ones, or its error.
func TestSamplesAsExact(t *testing.T) {
	d := dice(2306)
	count := map[api.Errno]int{}
	for i := range 120 {
		l := samplesAt(d.ticks(9, []int{20, 100}[i%2]))
		for k := range l {
			if d.below(2) == 0 {
				l[k].Height = float64(d.below(1<<20))/64 - 5000
			}
		}
		x := given{samples: l, rotors: d.rotors(5)}
		if i%10 == 0 {
			x.rotors = append(x.rotors, o(1, 1))
		}
		ones := told(l)
		want := answer{e: api.ErrRotor}
		if i%10 > 0 {
			want = analysed(ones.ticks, ones.list, x.rotors)
		}
		if got := calls()["Samples"](x); !got.is(want) {
			t.Errorf("Samples of %v, %v: %v, not %v", l, x.rotors, got.e, want.e)
		}
		count[want.e]++
	}
	if count[api.OK] < 30 || count[api.ErrSingular] < 20 {
		t.Errorf("answered %v", count)
	}
}

// Heights' error ahead of the rotors', that ahead of too few samples that are ones.
func TestSamplesRefuse(t *testing.T) {
	for key, w := range listsOfWrongRotors() {
		for k := range 3 {
			refused(t, "Samples", key+", "+strconv.Itoa(k), given{samples: samplesOf(k), rotors: w.l}, w.want)
		}
		refused(t, "Samples", key+", a wrong tick", given{samples: []api.Sample{s(-1, 0)}, rotors: w.l}, api.ErrArg)
	}
	nan := math.NaN()
	for key, x := range map[string]given{
		"no samples":        {rotors: pair()[:1]},
		"no numbers":        {samples: []api.Sample{s(0, nan), s(1, nan)}, rotors: pair()[:1]},
		"one, two rotors":   {samples: []api.Sample{s(0, 1)}, rotors: pair()},
		"one of many":       {samples: []api.Sample{s(0, nan), s(1, math.Inf(1)), s(2, 1), s(3, nan)}, rotors: pair()},
		"seven, eight":      {samples: append(samplesOf(7), s(7, nan)), rotors: eight()},
		"none, eight":       {rotors: eight()},
		"at even ticks":     {samples: []api.Sample{s(0, 1), s(1, nan), s(2, 5)}, rotors: []api.Rotor{o(2, 1), o(1, -2)}},
		"every fourth tick": {samples: []api.Sample{s(0, 1), s(4, 7), s(6, nan), s(8, 5)}, rotors: []api.Rotor{o(2, 1), o(1, 3)}},
	} {
		refused(t, "Samples", key, x, api.ErrSingular)
	}
}
