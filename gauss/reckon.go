package gauss

import (
	"slackwater/api"
	"slackwater/ratio"
)

// Add tells the sum.
func Add(a, b api.Gauss) (api.Gauss, api.Errno) {
	s := lookAt(a, b)
	re := s.sum(a.Re, b.Re)
	im := s.sum(a.Im, b.Im)
	return s.told(api.Gauss{Re: re, Im: im})
}

// Sub tells a less b.
func Sub(a, b api.Gauss) (api.Gauss, api.Errno) {
	s := lookAt(a, b)
	re := s.difference(a.Re, b.Re)
	im := s.difference(a.Im, b.Im)
	return s.told(api.Gauss{Re: re, Im: im})
}

// Mul tells the product.
func Mul(a, b api.Gauss) (api.Gauss, api.Errno) {
	s := lookAt(a, b)
	return s.told(s.times(a, b))
}

// Quo tells a over b; ErrZero, if b is 0.
func Quo(a, b api.Gauss) (api.Gauss, api.Errno) {
	s := lookAt(a, b)
	if s.err == api.OK && isNought(b) {
		return api.Gauss{}, api.ErrZero
	}
	norm := s.square(b)
	over := s.times(a, api.Gauss{Re: b.Re, Im: s.opposite(b.Im)})
	re := s.quotient(over.Re, norm)
	im := s.quotient(over.Im, norm)
	return s.told(api.Gauss{Re: re, Im: im})
}

// Scale tells r times a; r is looked at ahead of a.
func Scale(r api.Ratio, a api.Gauss) (api.Gauss, api.Errno) {
	s := &steps{err: ratio.Check(r)}
	s.look(a)
	re := s.product(r, a.Re)
	im := s.product(r, a.Im)
	return s.told(api.Gauss{Re: re, Im: im})
}

// Conj tells the conjugate: the imaginary part with the other sign.
func Conj(a api.Gauss) (api.Gauss, api.Errno) {
	s := lookAt(a)
	re := s.copied(a.Re)
	im := s.opposite(a.Im)
	return s.told(api.Gauss{Re: re, Im: im})
}

// Neg tells 0 less a.
func Neg(a api.Gauss) (api.Gauss, api.Errno) {
	s := lookAt(a)
	re := s.opposite(a.Re)
	im := s.opposite(a.Im)
	return s.told(api.Gauss{Re: re, Im: im})
}

// Norm tells the square of the size.
func Norm(a api.Gauss) (api.Ratio, api.Errno) {
	s := lookAt(a)
	norm := s.square(a)
	return norm, s.err
}
