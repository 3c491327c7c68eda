package ratio_test

import (
	"slices"
	"strconv"
	"testing"

	"slackwater/api"
	"slackwater/ratio"
	"slackwater/whole"
)

// P3.2

func TestReckonsSmallFractions(t *testing.T) {
	ok := must(t)
	for _, c := range []struct{ a, b, add, sub, mul, quo api.Ratio }{
		{q(1, 2), q(1, 3), q(5, 6), q(1, 6), q(1, 6), q(3, 2)}, {q(1, 2), q(1, 2), q(1, 1), q(0, 1), q(1, 4), q(1, 1)}, {q(1, 2), q(-1, 2), q(0, 1), q(1, 1), q(-1, 4), q(-1, 1)},
		{q(-3, 2), q(4, 3), q(-1, 6), q(-17, 6), q(-2, 1), q(-9, 8)}, {q(1, 2), q(-1, 4), q(1, 4), q(3, 4), q(-1, 8), q(-2, 1)}, {q(0, 1), q(-5, 1), q(-5, 1), q(5, 1), q(0, 1), q(0, 1)},
		{q(1, 6), q(1, 10), q(4, 15), q(1, 15), q(1, 60), q(5, 3)}, {q(-1, 6), q(-1, 3), q(-1, 2), q(1, 6), q(1, 18), q(1, 2)},
		{r(false, full(4, 1<<32-1), ints(1)), q(1, 1), r(false, ints(0, 0, 0, 0, 1), ints(1)), r(false, plus(full(4, 1<<32-1), 1<<32-1), ints(1)), r(false, full(4, 1<<32-1), ints(1)), r(false, full(4, 1<<32-1), ints(1))},
	} {
		for call, want := range map[string]api.Ratio{"Add": c.add, "Sub": c.sub, "Mul": c.mul, "Quo": c.quo, "Sum": c.add} {
			if got := ok(ofTwo()[call](c.a, c.b)); !same(got, want) {
				t.Errorf("%s of %v and %v: %v", call, c.a, c.b, got)
			}
		}
	}
}

func TestReckonsAllOfTheSmallest(t *testing.T) {
	ok := must(t)
	for a := int64(-12); a <= 12; a++ {
		for b := int64(1); b <= 12; b++ {
			for c := int64(-12); c <= 12; c++ {
				for d := int64(1); d <= 12; d++ {
					x, y := q(a, b), q(c, d)
					if !same(ok(ratio.Add(x, y)), q(a*d+c*b, b*d)) || !same(ok(ratio.Sub(x, y)), q(a*d-c*b, b*d)) || !same(ok(ratio.Mul(x, y)), q(a*c, b*d)) {
						t.Fatalf("%d/%d and %d/%d", a, b, c, d)
					}
					got, e := ratio.Quo(x, y)
					if c == 0 {
						refused(t, "Quo over 0", got, e, api.ErrZero)
						continue
					}
					above, below := a*d, b*c
					if c < 0 {
						above, below = -above, -below
					}
					if !same(ok(got, e), q(above, below)) {
						t.Fatalf("Quo of %d/%d and %d/%d: %v", a, b, c, d, got)
					}
				}
			}
		}
	}
}

func TestNeg(t *testing.T) {
	ok := must(t)
	for _, a := range append(smalls(), r(true, full(2048, 1<<32-1), two(65535)), r(false, ints(1), full(2048, 3))) {
		if got := ok(ratio.Neg(a)); !same(got, opposite(a)) {
			t.Errorf("Neg of %d over %d words: Neg %v", len(a.Num), len(a.Den), got.Neg)
		}
	}
}

func TestWrongFractionsAreRefused(t *testing.T) {
	others := []api.Ratio{q(0, 1), q(1, 1), q(-5, 3), r(true, full(2048, 1<<32-1), ints(1))}
	for name, c := range wrong() {
		for call, f := range ofOne() {
			got, e := f(c.a)
			refused(t, call+" of "+name, got, e, c.want)
		}
		for call, f := range ofTwo() {
			// ahead of the second one's, and of ErrZero
			for _, b := range append(others, api.Ratio{}, r(false, ints(2), ints(4)), r(false, full(2049, 1), ints(1))) {
				got, e := f(c.a, b)
				refused(t, call+" of "+name, got, e, c.want)
			}
			for _, a := range others {
				got, e := f(a, c.a)
				refused(t, call+" with "+name, got, e, c.want)
			}
		}
	}
	for _, a := range append(others, r(false, ints(1), full(2048, 1))) {
		got, e := ratio.Quo(a, q(0, 1))
		refused(t, "Quo over 0", got, e, api.ErrZero)
	}
}

// threes is 3^k, by words that are multiplied one by one.
func threes(k int) []uint32 {
	words := ints(1)
	for range k {
		var carry uint64
		for i, x := range words {
			carry += 3 * uint64(x)
			words[i] = uint32(carry)
			carry >>= 32
		}
		if carry > 0 {
			words = append(words, uint32(carry))
		}
	}
	return words
}

func TestWhatIsTooLongIsRefused(t *testing.T) {
	greatest, one := full(2048, 1<<32-1), ints(1)
	for i, c := range []struct {
		call string
		a, b api.Ratio
	}{
		// by Num alone
		{"Add", r(false, greatest, one), q(1, 1)}, {"Add", q(1, 1), r(false, greatest, one)}, {"Add", r(true, greatest, one), q(-1, 1)}, {"Add", r(false, two(65535), one), r(false, two(65535), one)},
		{"Add", r(false, two(65535), one), q(1, 2)}, {"Add", r(false, one, two(65535)), q(2, 1)}, {"Sub", r(false, greatest, one), q(-1, 1)}, {"Sub", q(-1, 1), r(false, greatest, one)},
		{"Sub", r(true, two(65535), one), q(1, 2)}, {"Mul", r(false, two(65535), one), q(2, 1)}, {"Mul", r(true, two(65535), one), r(true, two(65535), one)}, {"Mul", q(-2, 3), r(false, two(65535), one)},
		{"Quo", r(false, two(65535), one), q(1, 2)}, {"Quo", r(false, two(65535), ints(5)), q(-3, 2)},
		// by Den alone
		{"Add", r(false, one, two(40000)), r(true, one, threes(20000))}, {"Mul", r(false, one, two(65535)), q(1, 2)}, {"Mul", q(-3, 2), r(false, ints(5), two(65535))},
		{"Quo", r(false, one, two(65535)), q(2, 1)}, {"Quo", q(-5, 2), r(false, two(65535), ints(3))}, {"Sub", r(false, one, two(65535)), q(1, 3)},
		// by both
		{"Add", r(false, one, two(65535)), r(false, one, threes(41000))}, {"Mul", r(false, threes(30000), two(50000)), r(false, threes(30000), two(50000))},
		{"Quo", r(false, threes(30000), two(50000)), r(true, two(50000), threes(30000))},
		// the longest that may come in, with nothing in common
		{"Add", r(false, greatest, two(65535)), r(false, two(65535), greatest)}, {"Sub", r(true, greatest, two(65535)), r(false, two(65535), greatest)}, {"Mul", r(false, greatest, two(65535)), r(false, greatest, two(65535))},
		{"Sum", r(false, greatest, two(65535)), r(false, two(65535), greatest)},
	} {
		got, e := ofTwo()[c.call](c.a, c.b)
		refused(t, c.call+" above 2,048 words, line "+strconv.Itoa(i), got, e, api.ErrLong)
	}
}

func TestJustNotTooLong(t *testing.T) {
	ok := must(t)
	greatest, one := full(2048, 1<<32-1), ints(1)
	almost := plus(greatest, 1<<32-1)
	for i, c := range []struct {
		call       string
		a, b, want api.Ratio
	}{
		{"Add", r(false, almost, one), q(1, 1), r(false, greatest, one)}, {"Add", r(false, one, two(65535)), q(1, 1), r(false, plus(two(65535), 1), two(65535))},
		{"Sub", r(true, almost, one), q(1, 1), r(true, greatest, one)}, {"Add", r(false, one, two(65534)), q(1, 3), r(false, plus(two(65534), 3), multiplied(two(65534), 3))},
		{"Mul", r(false, two(32767), one), r(true, two(32768), one), r(true, two(65535), one)}, {"Mul", r(false, one, two(32767)), r(false, one, two(32768)), r(false, one, two(65535))},
		// the words ahead of the one form do not count
		{"Add", r(false, one, two(65535)), r(false, one, two(65535)), r(false, one, two(65534))}, {"Sub", r(false, greatest, one), r(false, greatest, one), q(0, 1)},
		{"Sub", r(false, greatest, two(65535)), r(false, greatest, two(65535)), q(0, 1)}, {"Add", r(false, almost, greatest), r(false, one, greatest), q(1, 1)},
		{"Mul", r(false, greatest, two(65535)), r(true, two(65535), greatest), q(-1, 1)}, {"Quo", r(true, greatest, two(65535)), r(true, greatest, two(65535)), q(1, 1)},
		{"Mul", r(false, two(65535), greatest), r(false, ints(3), two(65534)), r(false, ints(2), full(2048, 0x55555555))},
		{"Add", r(false, greatest, two(65535)), r(false, one, two(65535)), q(2, 1)}, {"Add", r(false, greatest, two(65534)), r(true, plus(almost, 1<<32-1), two(65534)), r(false, one, two(65533))},
		{"Quo", r(false, two(65535), one), q(2, 1), r(false, two(65534), one)}, {"Quo", q(0, 1), r(false, greatest, two(65535)), q(0, 1)}, {"Mul", r(false, greatest, two(65535)), q(0, 1), q(0, 1)},
		{"Sum", r(false, greatest, two(65535)), r(false, one, two(65535)), q(2, 1)},
	} {
		if got := ok(ofTwo()[c.call](c.a, c.b)); !same(got, c.want) {
			t.Errorf("%s, line %d: Neg %v, %d over %d words", c.call, i, got.Neg, len(got.Num), len(got.Den))
		}
	}
}

// multiplied is a list times a small number.
func multiplied(words []uint32, k uint64) []uint32 {
	words = append(slices.Clone(words), 0)
	var carry uint64
	for i, x := range words {
		carry += k * uint64(x)
		words[i] = uint32(carry)
		carry >>= 32
	}
	return trimmed(words...)
}

// P3.3

func TestSum(t *testing.T) {
	one, half, greatest := q(1, 1), q(1, 2), r(false, full(2048, 1<<32-1), ints(1))
	for i, c := range []struct {
		l    []api.Ratio
		want api.Ratio
	}{
		{nil, q(0, 1)}, {[]api.Ratio{}, q(0, 1)}, {[]api.Ratio{q(-3, 2)}, q(-3, 2)}, {[]api.Ratio{half, q(1, 3), q(1, 6)}, one}, {[]api.Ratio{half, q(-1, 2)}, q(0, 1)},
		{[]api.Ratio{q(0, 1), q(0, 1), q(0, 1)}, q(0, 1)}, {slices.Repeat([]api.Ratio{q(1, 100)}, 300), q(3, 1)}, {[]api.Ratio{greatest}, greatest}, {[]api.Ratio{greatest, opposite(greatest), half}, half},
		{[]api.Ratio{opposite(one), greatest, one}, greatest},
	} {
		if got, f := ratio.Sum(c.l); f != (api.Fault{}) || !same(got, c.want) {
			t.Errorf("Sum, line %d: %v, Neg %v, %d over %d words", i, f, got.Neg, len(got.Num), len(got.Den))
		}
	}
}

func TestSumRefuses(t *testing.T) {
	one, half, greatest := q(1, 1), q(1, 2), r(false, full(2048, 1<<32-1), ints(1))
	rough, long := r(false, ints(2), ints(4)), r(false, ints(1), full(2049, 1))
	for i, c := range []struct {
		l    []api.Ratio
		want api.Fault
	}{
		{[]api.Ratio{one, {}}, api.Fault{Err: api.ErrNormal, At: 1}}, {[]api.Ratio{rough}, api.Fault{Err: api.ErrNormal, At: 0}}, {[]api.Ratio{one, half, long}, api.Fault{Err: api.ErrLong, At: 2}},
		{[]api.Ratio{one, rough, long, rough}, api.Fault{Err: api.ErrNormal, At: 1}}, {[]api.Ratio{one, long, rough}, api.Fault{Err: api.ErrLong, At: 1}},
		{[]api.Ratio{greatest, one}, api.Fault{Err: api.ErrLong, At: 1}}, {[]api.Ratio{one, greatest}, api.Fault{Err: api.ErrLong, At: 1}}, {[]api.Ratio{q(0, 1), half, greatest}, api.Fault{Err: api.ErrLong, At: 2}},
		// though the whole would not be too long
		{[]api.Ratio{one, greatest, opposite(one)}, api.Fault{Err: api.ErrLong, At: 1}}, {[]api.Ratio{one, one, half, greatest, opposite(greatest)}, api.Fault{Err: api.ErrLong, At: 3}},
		// all are looked at ahead of the first sum
		{[]api.Ratio{greatest, greatest, one, rough}, api.Fault{Err: api.ErrNormal, At: 3}}, {[]api.Ratio{greatest, one, long}, api.Fault{Err: api.ErrLong, At: 2}},
	} {
		got, f := ratio.Sum(c.l)
		if f != c.want || !nothing(got) {
			t.Errorf("Sum, line %d: %v, Neg %v, %d over %d words", i, f, got.Neg, len(got.Num), len(got.Den))
		}
	}
	for name, c := range wrong() {
		if got, f := ratio.Sum([]api.Ratio{one, c.a, long, rough}); f != (api.Fault{Err: c.want, At: 1}) || !nothing(got) {
			t.Errorf("Sum with %s: %v %v", name, f, got)
		}
	}
}

func TestSumLeavesItsListAsItIs(t *testing.T) {
	l := []api.Ratio{marked(q(1, 2)), marked(q(-1, 3)), marked(q(5, 1)), {}}
	list := l[:3]
	got, f := ratio.Sum(list)
	if f != (api.Fault{}) || !scribbled(got) || !untouched(l[0], q(1, 2)) || !untouched(l[1], q(-1, 3)) || !untouched(l[2], q(5, 1)) || !nothing(l[3]) {
		t.Errorf("Sum changes its list: %v %v", l, f)
	}
}

// P3.6

// byWhole reckons as the school does, by the whole products, in lowest terms at the end.
func byWhole(t *testing.T, call string, a, b api.Ratio) api.Ratio {
	t.Helper()
	ok := mustWhole(t)
	an, ad := api.Whole{Neg: a.Neg, Words: a.Num}, api.Whole{Words: a.Den}
	bn, bd := api.Whole{Neg: b.Neg, Words: b.Num}, api.Whole{Words: b.Den}
	num, den := ok(whole.Mul(an, bd)), ok(whole.Mul(ad, bd))
	switch call {
	case "Add", "Sum":
		num = ok(whole.Add(num, ok(whole.Mul(bn, ad))))
	case "Sub":
		num = ok(whole.Sub(num, ok(whole.Mul(bn, ad))))
	case "Mul":
		num = ok(whole.Mul(an, bn))
	case "Quo":
		den = ok(whole.Mul(ad, bn))
	}
	return must(t)(ratio.Make(num, den))
}

func TestReckonsAsByWholeNumbers(t *testing.T) {
	ok := must(t)
	d := dice(1)
	for i := range 1500 {
		k := 1 + i%20
		if i%300 == 0 {
			k = 500
		}
		a, b := d.fraction(t, k), d.fraction(t, k)
		for call, f := range ofTwo() {
			if call == "Quo" && len(b.Num) == 0 {
				continue
			}
			if got := ok(f(a, b)); !same(got, byWhole(t, call, a, b)) {
				t.Fatal(call, a, b, got)
			}
		}
	}
}

func TestMakeIsInLowestTerms(t *testing.T) {
	ok, okWhole := must(t), mustWhole(t)
	d := dice(2)
	for i := range 1500 {
		k := 1 + i%20
		if i%300 == 0 {
			k = 1000
		}
		num, den, more := d.number(k), d.number(k), d.number(k)
		if len(den.Words) == 0 || len(more.Words) == 0 {
			continue
		}
		plain, wider := ok(ratio.Make(num, den)), ok(ratio.Make(okWhole(whole.Mul(num, more)), okWhole(whole.Mul(den, more))))
		left := okWhole(whole.Mul(api.Whole{Neg: plain.Neg, Words: plain.Num}, den))
		right := okWhole(whole.Mul(api.Whole{Words: plain.Den}, num))
		if c, e := whole.Compare(left, right); c != 0 || e != api.OK || !same(plain, wider) {
			t.Fatal("Make", num, den, more, plain, wider)
		}
	}
}

func TestLaws(t *testing.T) {
	ok := must(t)
	d := dice(3)
	for i := range 1500 {
		k := 1 + i%15
		if i%500 == 0 {
			k = 300
		}
		a, b, c := d.fraction(t, k), d.fraction(t, k), d.fraction(t, k)
		sum, product := ok(ratio.Add(a, b)), ok(ratio.Mul(a, b))
		if !same(sum, ok(ratio.Add(b, a))) || !same(ok(ratio.Add(sum, c)), ok(ratio.Add(a, ok(ratio.Add(b, c))))) || !same(ok(total(a, b, c)), ok(total(c, a, b))) {
			t.Fatal("sums hang on their order", a, b, c)
		}
		if !same(product, ok(ratio.Mul(b, a))) || !same(ok(ratio.Mul(product, c)), ok(ratio.Mul(a, ok(ratio.Mul(b, c))))) {
			t.Fatal("products hang on their order", a, b, c)
		}
		if !same(ok(ratio.Mul(sum, c)), ok(ratio.Add(ok(ratio.Mul(a, c)), ok(ratio.Mul(b, c))))) {
			t.Fatal("a product of a sum", a, b, c)
		}
		less := ok(ratio.Sub(a, b))
		if !same(less, ok(ratio.Neg(ok(ratio.Sub(b, a))))) || !same(ok(ratio.Add(less, b)), a) || !same(less, ok(ratio.Add(a, ok(ratio.Neg(b))))) {
			t.Fatal("a less b", a, b)
		}
		if len(b.Num) > 0 && !same(ok(ratio.Mul(ok(ratio.Quo(a, b)), b)), a) {
			t.Fatal("divided and multiplied", a, b)
		}
		if !same(ok(total(a, b, c)), ok(ratio.Add(sum, c))) {
			t.Fatal("Sum", a, b, c)
		}
	}
}
