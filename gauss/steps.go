package gauss

import (
	"slackwater/api"
	"slackwater/ratio"
)

// steps makes what a call makes on the way, one behind the other. Once something is refused its methods do nothing, and what they tell is a zero value.
type steps struct {
	err api.Errno
}

// lookAt looks at arguments in their order.
func lookAt(arguments ...api.Gauss) *steps {
	s := &steps{}
	for _, a := range arguments {
		s.look(a)
	}
	return s
}

func (s *steps) look(a api.Gauss) {
	if s.err == api.OK {
		s.err = Check(a)
	}
}

func (s *steps) sum(a, b api.Ratio) api.Ratio { return s.next(ratio.Add, a, b) }

func (s *steps) difference(a, b api.Ratio) api.Ratio { return s.next(ratio.Sub, a, b) }

func (s *steps) product(a, b api.Ratio) api.Ratio { return s.next(ratio.Mul, a, b) }

func (s *steps) quotient(a, b api.Ratio) api.Ratio { return s.next(ratio.Quo, a, b) }

// next makes one fraction of two.
func (s *steps) next(call func(a, b api.Ratio) (api.Ratio, api.Errno), a, b api.Ratio) (made api.Ratio) {
	if s.err == api.OK {
		made, s.err = call(a, b)
	}
	return made
}

// opposite makes the fraction with the other sign.
func (s *steps) opposite(a api.Ratio) (made api.Ratio) {
	if s.err == api.OK {
		made, s.err = ratio.Neg(a)
	}
	return made
}

// copied makes the same fraction in memory of its own, as an answer must be.
func (s *steps) copied(a api.Ratio) (made api.Ratio) {
	if s.err == api.OK {
		made = api.Ratio{Neg: a.Neg, Num: append([]uint32(nil), a.Num...), Den: append([]uint32(nil), a.Den...)}
	}
	return made
}

// times makes the product of two complex fractions.
func (s *steps) times(a, b api.Gauss) api.Gauss {
	re := s.difference(s.product(a.Re, b.Re), s.product(a.Im, b.Im))
	im := s.sum(s.product(a.Re, b.Im), s.product(a.Im, b.Re))
	return api.Gauss{Re: re, Im: im}
}

// square makes the square of the size.
func (s *steps) square(a api.Gauss) api.Ratio {
	return s.sum(s.product(a.Re, a.Re), s.product(a.Im, a.Im))
}

// told hands out what was made, or the error alone.
func (s *steps) told(made api.Gauss) (api.Gauss, api.Errno) {
	if s.err != api.OK {
		return api.Gauss{}, s.err
	}
	return made, api.OK
}
