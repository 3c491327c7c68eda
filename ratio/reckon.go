package ratio

import (
	"slackwater/api"
	"slackwater/nat"
)

// Add tells the sum.
func Add(a, b api.Ratio) (api.Ratio, api.Errno) {
	if e := checkBoth(a, b); e != api.OK {
		return api.Ratio{}, e
	}
	return add(a, b)
}

// Sub tells a less b.
func Sub(a, b api.Ratio) (api.Ratio, api.Errno) {
	if e := checkBoth(a, b); e != api.OK {
		return api.Ratio{}, e
	}
	b.Neg = !b.Neg
	return add(a, b)
}

// Mul tells the product.
func Mul(a, b api.Ratio) (api.Ratio, api.Errno) {
	if e := checkBoth(a, b); e != api.OK {
		return api.Ratio{}, e
	}
	return multiply(a, b)
}

// Quo tells a over b; ErrZero, if b is 0.
func Quo(a, b api.Ratio) (api.Ratio, api.Errno) {
	if e := checkBoth(a, b); e != api.OK {
		return api.Ratio{}, e
	}
	if len(b.Num) == 0 {
		return api.Ratio{}, api.ErrZero
	}
	b.Num, b.Den = b.Den, b.Num
	return multiply(a, b)
}

// Neg tells 0 less a.
func Neg(a api.Ratio) (api.Ratio, api.Errno) {
	if e := Check(a); e != api.OK {
		return api.Ratio{}, e
	}
	return told(!a.Neg, nat.Trim(a.Num), nat.Trim(a.Den))
}

// Sum adds all from 0 on, in their order. All are looked at ahead of the first sum.
func Sum(l []api.Ratio) (api.Ratio, api.Fault) {
	for i, r := range l {
		if e := Check(r); e != api.OK {
			return api.Ratio{}, api.Fault{Err: e, At: i}
		}
	}
	total := api.Ratio{Den: nat.Of(1)}
	for i, r := range l {
		var e api.Errno
		if total, e = add(total, r); e != api.OK {
			return api.Ratio{}, api.Fault{Err: e, At: i}
		}
	}
	return total, api.Fault{}
}

// add adds fractions that may be, but for the sign of 0. What both denominators have in common is taken out first, and only that can have something in common with the numerator: so no common divisor of the long products is sought.
func add(a, b api.Ratio) (api.Ratio, api.Errno) {
	common := commonDivisor(a.Den, b.Den)
	restA, restB := quotient(a.Den, common), quotient(b.Den, common)
	num := signedSum(api.Whole{Neg: a.Neg, Words: product(a.Num, restB)}, api.Whole{Neg: b.Neg, Words: product(b.Num, restA)})
	still := commonDivisor(num.Words, common)
	return told(num.Neg, quotient(num.Words, still), product(restA, quotient(b.Den, still)))
}

// multiply multiplies fractions that may be. Each numerator can have something in common with the other one's denominator alone.
func multiply(a, b api.Ratio) (api.Ratio, api.Errno) {
	first, second := commonDivisor(a.Num, b.Den), commonDivisor(b.Num, a.Den)
	num := product(quotient(a.Num, first), quotient(b.Num, second))
	den := product(quotient(a.Den, second), quotient(b.Den, first))
	return told(a.Neg != b.Neg, num, den)
}

// signedSum adds numbers that stand ahead of a one form: they may be longer than whole bears, and 0 may have a sign.
func signedSum(a, b api.Whole) api.Whole {
	switch {
	case a.Neg == b.Neg:
		return api.Whole{Neg: a.Neg, Words: sum(a.Words, b.Words)}
	case nat.Compare(a.Words, b.Words) < 0:
		return api.Whole{Neg: b.Neg, Words: difference(b.Words, a.Words)}
	}
	return api.Whole{Neg: a.Neg, Words: difference(a.Words, b.Words)}
}

// Of lists that fractions may have no product and no sum of two products has more than 2 MaxLimbs + 1 words, which nat bears: so none of the following is refused.

func sum(a, b []uint32) []uint32 {
	s, _ := nat.Add(a, b)
	return s
}

func difference(a, b []uint32) []uint32 {
	d, _ := nat.Sub(a, b)
	return d
}

func product(a, b []uint32) []uint32 {
	p, _ := nat.Mul(a, b)
	return p
}

func quotient(a, b []uint32) []uint32 {
	q, _, _ := nat.DivMod(a, b)
	return q
}

func commonDivisor(a, b []uint32) []uint32 {
	g, _ := nat.Gcd(a, b)
	return g
}
