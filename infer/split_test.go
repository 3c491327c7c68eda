package infer_test

import (
	"testing"

	"slackwater/api"
	"slackwater/gauss"
	"slackwater/infer"
)

// P24.3

// splitOf hands on what Split answers, which may not be refused and must be in its one form.
func splitOf(t *testing.T, total, ratio api.Gauss) (first, second api.Gauss) {
	t.Helper()
	first, second, e := infer.Split(total, ratio)
	if e != api.OK || gauss.Check(first) != api.OK || gauss.Check(second) != api.OK {
		t.Fatalf("Split answered %v, or what is not in its one form", e)
	}
	return first, second
}

// splitRefused looks whether Split answers just this error, and nothing beside it.
func splitRefused(t *testing.T, what string, total, ratio api.Gauss, want api.Errno) {
	t.Helper()
	if first, second, e := infer.Split(total, ratio); e != want || !sameGauss(first, api.Gauss{}) || !sameGauss(second, api.Gauss{}) {
		t.Errorf("Split, %s: %v, not %v alone", what, e, want)
	}
}

func TestSplit(t *testing.T) {
	for _, c := range [][4]string{
		{"3 0", "1/2 0", "2 0", "1 0"}, {"0 0", "0 1", "0 0", "0 0"}, {"2 0", "0 1", "1 -1", "1 1"},
		{"5 -7", "0 0", "5 -7", "0 0"}, {"0 0", "0 0", "0 0", "0 0"}, {"4 2", "1 0", "2 1", "2 1"},
		{"1 0", "-2 0", "-1 0", "2 0"}, {"1 0", "-1/2 0", "2 0", "-1 0"}, {"0 1", "-1 1", "1 0", "-1 1"},
		{"0 3", "-1 -1", "-3 0", "3 3"}, {"0 2", "0 -1", "-1 1", "1 1"}, {"1/3 2/3", "2/3 -1", "-1/34 13/34", "37/102 29/102"},
	} {
		first, second := splitOf(t, read(t, c[0]), read(t, c[1]))
		if !sameGauss(first, read(t, c[2])) || !sameGauss(second, read(t, c[3])) {
			t.Errorf("Split of %s by %s: not %s and %s", c[0], c[1], c[2], c[3])
		}
	}
}

// splitAs holds what Split answers against the definition, and tells the error that it should be.
func splitAs(t *testing.T, what string, total, ratio api.Gauss) api.Errno {
	t.Helper()
	first, second, want := split(total, ratio)
	if want != api.OK {
		splitRefused(t, what, total, ratio, want)
		return want
	}
	if a, b := splitOf(t, total, ratio); !sameGauss(a, first.gauss()) || !sameGauss(b, second.gauss()) {
		t.Errorf("Split, %s: not as it should be", what)
	}
	return api.OK
}

func TestSplitOfSmallNumbers(t *testing.T) {
	for i := range int64(7) {
		for k := range int64(7) {
			for _, total := range []api.Gauss{z(0, 0), z(1, 0), z(0, -1), z(-6, 5), g(q(1, 2), q(-2, 3))} {
				splitAs(t, "small numbers", total, z(i-3, k-3))
				splitAs(t, "small fractions", total, g(q(i-3, 2), q(k-3, 3)))
			}
		}
	}
}

func TestSplitThrown(t *testing.T) {
	d := dice(2403)
	for range 1000 {
		splitAs(t, "thrown", d.number(), d.number())
	}
	count := map[api.Errno]int{}
	for range 100 {
		total, ratio := d.long(), d.number()
		if d.below(3) == 0 {
			total, ratio = d.number(), d.long()
		}
		count[splitAs(t, "thrown, long", total, ratio)]++
	}
	if count[api.OK] < 25 || count[api.ErrLong] < 25 {
		t.Errorf("answered %v", count)
	}
}

// Each number that just fits, or just doesn't, at each step: 1 and the ratio together, the square of this, its product with the total, both over that square, the second.
func TestSplitTooLong(t *testing.T) {
	const ok, long = api.OK, api.ErrLong
	full := r(false, full(2048, 1<<32-1), ints(1))
	zero, one := z(0, 0), z(1, 0)
	// 1 and this come to 2 to the power k.
	short := func(k int) api.Ratio {
		w := planeOf(re(wide(k)))
		w.re.Sub(w.re, whole(1, 0).re)
		return fraction(w.re)
	}
	half, other, third, fourth := under(32*599+7), odd(600), under(32*499+7), odd(500)
	for key, c := range map[string]struct {
		total, ratio api.Gauss
		want         api.Errno
	}{
		"both together":                     {zero, re(full), long},
		"both's Re squared":                 {zero, re(short(32768)), long},
		"both's Re squared fits":            {zero, re(short(32767)), ok},
		"both's Re squared fits, of 1":      {one, re(short(32767)), ok},
		"both's Im squared":                 {zero, im(wide(32768)), long},
		"both's Im squared fits":            {zero, im(wide(32767)), ok},
		"both's Im squared fits, of 1":      {one, im(wide(32767)), ok},
		"the square of both's Den":          {zero, im(under(32768)), long},
		"the square of both's Den fits":     {zero, im(under(32767)), ok},
		"a long ratio below 0":              {zero, re(r(true, two(32768), ints(1))), ok},
		"a longer ratio below 0":            {zero, re(r(true, append(make([]uint32, 1024), 2), ints(1))), long},
		"both's squares together":           {zero, g(half, other), long},
		"both's squares together fit":       {zero, g(third, fourth), ok},
		"both's squares together, changed":  {zero, g(other, half), long},
		"the product's Re":                  {re(wide(65535)), one, long},
		"the product's Re fits":             {re(wide(65534)), one, ok},
		"the product's Im":                  {im(wide(65535)), one, long},
		"the product's Im fits":             {im(wide(65534)), one, ok},
		"the product's Den":                 {re(under(65535)), re(q(-1, 2)), long},
		"the product's Den, by 1":           {re(under(65535)), zero, ok},
		"the product of Re and Im":          {re(wide(65535)), z(0, 2), long},
		"the product of Im and Im":          {im(wide(65534)), z(0, 4), long},
		"the product's Re, as a difference": {g(under(41600), odd(1300)), z(0, 1), long},
		"without a difference":              {g(under(41600), odd(1300)), one, ok},
		"a quotient's Re":                   {re(wide(65535)), re(q(-1, 2)), long},
		"a quotient's Re fits":              {re(wide(65534)), re(q(-1, 2)), ok},
		"a quotient's Im":                   {im(wide(65535)), re(q(-1, 2)), long},
		"a quotient's Im fits":              {im(wide(65534)), re(q(-1, 2)), ok},
		"a quotient's Den":                  {re(under(65534)), z(2, 0), ok},
		"a quotient's Den, by three":        {re(under(65535)), z(2, 0), long},
		"as long as may be, by 0":           {g(full, full), zero, ok},
		"the second's Re":                   {re(wide(65535)), z(-2, 0), long},
		"the second's Re fits":              {re(wide(65534)), z(-2, 0), ok},
		"the second's Im":                   {im(wide(65535)), z(-2, 0), long},
		"the second's Im fits":              {im(wide(65534)), z(-2, 0), ok},
		"the second, all of it":             {re(full), z(-2, 0), long},
		// Of both together, (-3 + i)/5, neither the square nor its product with the total is too long, and the second is -3 and 2 i times what stands here.
		"the second's products alone":     {g(r(true, two(65533), ints(1)), wide(65533)), g(q(-8, 5), q(1, 5)), long},
		"the second's products alone fit": {g(r(true, two(65531), ints(1)), wide(65531)), g(q(-8, 5), q(1, 5)), ok},
	} {
		if e := splitAs(t, key, c.total, c.ratio); e != c.want {
			t.Errorf("%s: %v, not %v", key, e, c.want)
		}
	}
}

// The order of errors: the total's, the ratio's, a ratio of -1, what is too long.
func TestSplitRefuses(t *testing.T) {
	for key, w := range wrongNumbers() {
		splitRefused(t, "the total "+key, w.a, z(1, 2), w.want)
		splitRefused(t, "the total "+key+", the ratio wrong, too", w.a, other(w.want), w.want)
		splitRefused(t, "the total "+key+", the ratio -1", w.a, z(-1, 0), w.want)
		splitRefused(t, "the ratio "+key, z(1, 2), w.a, w.want)
		splitRefused(t, "the ratio "+key+", the total 0", z(0, 0), w.a, w.want)
		splitRefused(t, "the ratio "+key+", the total long", re(wide(65535)), w.a, w.want)
	}
	for _, total := range []api.Gauss{z(0, 0), z(1, 0), g(q(1, 2), q(-1, 3)), g(wide(65535), under(65535))} {
		splitRefused(t, "the ratio -1", total, z(-1, 0), api.ErrZero)
	}
}
