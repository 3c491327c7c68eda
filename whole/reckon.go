package whole

import (
	"slackwater/api"
	"slackwater/nat"
)

// greatestPower is how many times a number may be taken.
const greatestPower = 4096

// Neg tells 0 less a.
func Neg(a api.Whole) (api.Whole, api.Errno) {
	if e := Check(a); e != api.OK {
		return api.Whole{}, e
	}
	return formed(!a.Neg, nat.Trim(a.Words)), api.OK
}

// Abs tells the number without its sign.
func Abs(a api.Whole) (api.Whole, api.Errno) {
	if e := Check(a); e != api.OK {
		return api.Whole{}, e
	}
	return formed(false, nat.Trim(a.Words)), api.OK
}

// Add tells the sum.
func Add(a, b api.Whole) (api.Whole, api.Errno) {
	if e := checkBoth(a, b); e != api.OK {
		return api.Whole{}, e
	}
	return sum(a, b)
}

// Sub tells a less b.
func Sub(a, b api.Whole) (api.Whole, api.Errno) {
	if e := checkBoth(a, b); e != api.OK {
		return api.Whole{}, e
	}
	return sum(a, formed(!b.Neg, b.Words))
}

// Mul tells the product.
func Mul(a, b api.Whole) (api.Whole, api.Errno) {
	if e := checkBoth(a, b); e != api.OK {
		return api.Whole{}, e
	}
	return product(a, b)
}

// DivMod tells how often b goes into a, and the rest, which is from 0 on and below b's size; ErrZero, if b is 0.
func DivMod(a, b api.Whole) (q, r api.Whole, e api.Errno) {
	if e = checkBoth(a, b); e != api.OK {
		return q, r, e
	}
	if len(b.Words) == 0 {
		return q, r, api.ErrZero
	}
	quotient, rest := divide(a, b)
	return formed(unlike(a, b), quotient), formed(false, rest), api.OK
}

// Gcd tells the greatest number that divides both.
func Gcd(a, b api.Whole) (api.Whole, api.Errno) {
	if e := checkBoth(a, b); e != api.OK {
		return api.Whole{}, e
	}
	size, e := nat.Gcd(a.Words, b.Words)
	return told(false, size, e)
}

// Power tells the product of n times a; ErrArg, if n is not from 0 to 4,096.
func Power(a api.Whole, n int) (api.Whole, api.Errno) {
	if e := Check(a); e != api.OK {
		return api.Whole{}, e
	}
	if n < 0 || n > greatestPower {
		return api.Whole{}, api.ErrArg
	}
	return power(a, n)
}

// sum adds numbers that may be.
func sum(a, b api.Whole) (api.Whole, api.Errno) {
	switch (signs{a.Neg, b.Neg}) {
	case signs{false, true}:
		return difference(a.Words, b.Words)
	case signs{true, false}:
		return difference(b.Words, a.Words)
	}
	size, e := nat.Add(a.Words, b.Words)
	return told(a.Neg, size, e)
}

// difference takes a size off another one.
func difference(a, b []uint32) (api.Whole, api.Errno) {
	below := nat.Compare(a, b) < 0
	if below {
		a, b = b, a
	}
	size, e := nat.Sub(a, b)
	return told(below, size, e)
}

// product multiplies numbers that may be.
func product(a, b api.Whole) (api.Whole, api.Errno) {
	size, e := nat.Mul(a.Words, b.Words)
	return told(unlike(a, b), size, e)
}

// unlike tells whether just one of two numbers is below 0: so is their product, then, and their quotient.
func unlike(a, b api.Whole) bool {
	switch (signs{a.Neg, b.Neg}) {
	case signs{false, true}, signs{true, false}:
		return true
	}
	return false
}

// divide tells the sizes of quotient and rest, b not being 0.
func divide(a, b api.Whole) (quotient, rest []uint32) {
	// Numbers that may be are never refused below: neither is any size here greater than that of a or b.
	quotient, rest, _ = nat.DivMod(a.Words, b.Words)
	if !a.Neg || len(rest) == 0 {
		return quotient, rest
	}
	// Below 0 the divisor goes in once more, so that the rest is not below 0.
	quotient, _ = nat.Add(quotient, nat.Of(1))
	rest, _ = nat.Sub(b.Words, rest)
	return quotient, rest
}

// power multiplies those of a, its square, the square of that and so on, that the bits of n name.
func power(a api.Whole, n int) (p api.Whole, e api.Errno) {
	p = Of(1)
	for {
		if n%2 == 1 {
			if p, e = product(p, a); e != api.OK {
				return api.Whole{}, e
			}
		}
		n /= 2
		if n == 0 {
			return p, api.OK
		}
		// Some bit is left, so the square goes into the answer: where it is too long, so is that.
		if a, e = product(a, a); e != api.OK {
			return api.Whole{}, e
		}
	}
}
