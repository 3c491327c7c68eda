package tide

import (
	"slackwater/api"
	"slackwater/ratio"
)

// number is a constituent's Number with what gauss does not tell of one that may not be.
type number struct {
	api.Gauss
}

// same tells whether the words are the same, field by field.
func (n number) same(m number) bool {
	return ratio.Same(n.Re, m.Re) && ratio.Same(n.Im, m.Im)
}

// copied makes the same number in memory of its own.
func (n number) copied() api.Gauss {
	return api.Gauss{Re: copied(n.Re), Im: copied(n.Im)}
}

func copied(r api.Ratio) api.Ratio {
	return api.Ratio{Neg: r.Neg, Num: append([]uint32(nil), r.Num...), Den: append([]uint32(nil), r.Den...)}
}
