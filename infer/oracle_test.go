package infer_test

import (
	"math/big"
	"regexp"
	"slices"

	"slackwater/api"
)

// plane is a complex fraction of the library's.
type plane struct {
	re, im *big.Rat
}

func planeOf(a api.Gauss) plane { return plane{rational(a.Re), rational(a.Im)} }

// rational writes the library's fraction of one in its one form.
func rational(a api.Ratio) *big.Rat {
	f := new(big.Rat).SetFrac(natural(a.Num), natural(a.Den))
	if a.Neg {
		f.Neg(f)
	}
	return f
}

func natural(words []uint32) *big.Int {
	n := new(big.Int)
	for _, w := range slices.Backward(words) {
		n.Add(n.Lsh(n, 32), big.NewInt(int64(w)))
	}
	return n
}

func whole(x, y int64) plane { return plane{big.NewRat(x, 1), big.NewRat(y, 1)} }

func (a plane) gauss() api.Gauss { return g(fraction(a.re), fraction(a.im)) }

func (a plane) is(b plane) bool { return a.re.Cmp(b.re) == 0 && a.im.Cmp(b.im) == 0 }

func (a plane) conjugate() plane { return plane{a.re, new(big.Rat).Neg(a.im)} }

// powers are a rotor's from 0 on below n, by the library's whole numbers: (Far + i Near) to 2t, over the square of its size to t.
func powers(x api.Rotor, n int) []plane {
	far, near := big.NewInt(int64(x.Far)), big.NewInt(int64(x.Near))
	product := func(a, b *big.Int) *big.Int { return new(big.Int).Mul(a, b) }
	norm := new(big.Int).Add(product(far, far), product(near, near))
	top, side, below := big.NewInt(1), big.NewInt(0), big.NewInt(1)
	var l []plane
	for range n {
		l = append(l, plane{new(big.Rat).SetFrac(top, below), new(big.Rat).SetFrac(side, below)})
		for range 2 {
			top, side = new(big.Int).Sub(product(top, far), product(side, near)), new(big.Int).Add(product(top, near), product(side, far))
		}
		below = product(below, norm)
	}
	return l
}

// way makes fractions one by one as the document names them, and keeps whether one had more than 2,048 words.
type way struct {
	long bool
}

func (w *way) made(f *big.Rat) *big.Rat {
	const bits = 32 * 2048
	w.long = w.long || f.Num().BitLen() > bits || f.Denom().BitLen() > bits
	return f
}

func (w *way) product(x, y *big.Rat) *big.Rat { return w.made(new(big.Rat).Mul(x, y)) }

func (w *way) sum(x, y *big.Rat) *big.Rat { return w.made(new(big.Rat).Add(x, y)) }

func (w *way) difference(x, y *big.Rat) *big.Rat { return w.made(new(big.Rat).Sub(x, y)) }

func (w *way) quotient(x, y *big.Rat) *big.Rat { return w.made(new(big.Rat).Quo(x, y)) }

func (w *way) times(a, b plane) plane {
	return plane{w.difference(w.product(a.re, b.re), w.product(a.im, b.im)), w.sum(w.product(a.re, b.im), w.product(a.im, b.re))}
}

func (w *way) plus(a, b plane) plane { return plane{w.sum(a.re, b.re), w.sum(a.im, b.im)} }

func (w *way) norm(a plane) *big.Rat { return w.sum(w.product(a.re, a.re), w.product(a.im, a.im)) }

func (w *way) over(a, b plane) plane {
	norm := w.norm(b)
	top := w.times(a, b.conjugate())
	return plane{w.quotient(top.re, norm), w.quotient(top.im, norm)}
}

// near is what Near must answer of what may be, and whether it is not refused.
func near(a, b api.Rotor, n int) (*big.Rat, bool) {
	var w way
	mine, theirs := powers(a, n), powers(b, n)
	sum := whole(0, 0)
	for t := range n {
		sum = w.plus(sum, w.times(mine[t].conjugate(), theirs[t]))
	}
	det := w.difference(big.NewRat(int64(n)*int64(n), 1), w.norm(sum))
	return det, !w.long
}

// split is what Split must answer of what may be.
func split(total, ratio api.Gauss) (first, second plane, e api.Errno) {
	var w way
	both := w.plus(whole(1, 0), planeOf(ratio))
	if both.is(whole(0, 0)) {
		return plane{}, plane{}, api.ErrZero
	}
	first = w.over(planeOf(total), both)
	second = w.times(planeOf(ratio), first)
	if w.long {
		return plane{}, plane{}, api.ErrLong
	}
	return first, second, api.OK
}

// mayBe tells whether a rotor may be.
func mayBe(u api.Rotor) bool {
	far, near := int64(u.Far), max(int64(u.Near), -int64(u.Near))
	inside := 1 <= far && far <= 1000 && 1 <= near && near <= 1000 && far != near
	return inside && new(big.Int).GCD(nil, nil, big.NewInt(far), big.NewInt(near)).Int64() == 1
}

// checked is what Check must answer of a rule whose Ratio may be.
func checked(r api.Rule) api.Errno {
	name := regexp.MustCompile(`^[A-Za-z][A-Za-z0-9]{0,19}$`)
	switch {
	case !name.MatchString(r.From) || !name.MatchString(r.Name) || r.From == r.Name:
		return api.ErrName
	case !mayBe(r.Rotor):
		return api.ErrRotor
	case planeOf(r.Ratio).is(whole(-1, 0)):
		return api.ErrZero
	}
	return api.OK
}

// applied is what Apply must answer of constituents and Ratios that may be.
func applied(l []api.Tide, rules []api.Rule) ([]api.Tide, api.Fault) {
	if len(l) > 24 || len(rules) > 24 {
		return nil, fault(api.ErrLong, -1)
	}
	list := slices.Clone(l)
	for i, r := range rules {
		at := len(l) + i
		if e := checked(r); e != api.OK {
			return nil, fault(e, at)
		}
		from, there := -1, false
		for k, c := range list {
			if c.Name == r.From && from < 0 {
				from = k
			}
			there = there || c.Name == r.Name || c.Rotor == r.Rotor
		}
		switch {
		case from < 0:
			return nil, fault(api.ErrMissing, at)
		case there:
			return nil, fault(api.ErrThere, at)
		case len(list) == 24:
			return nil, fault(api.ErrLong, at)
		}
		first, second, e := split(list[from].Number, r.Ratio)
		if e != api.OK {
			return nil, fault(e, at)
		}
		list[from].Number = first.gauss()
		list = append(list, tide(r.Name, r.Rotor, second.gauss()))
	}
	return list, api.Fault{}
}
