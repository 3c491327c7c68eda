package shallow

import (
	"slices"

	"slackwater/api"
	"slackwater/gauss"
)

// Merge brings rounds of one Unit together.
func Merge(l []api.Round) ([]api.Round, api.Fault) {
	if f := Check(l); f.Err != api.OK {
		return nil, f
	}
	return mergedOf(l)
}

// Plus adds two tides.
func Plus(a, b []api.Round) ([]api.Round, api.Fault) {
	if f := checkBoth(a, b); f.Err != api.OK {
		return nil, f
	}
	// Cut so, a has no spare room into which b could be written.
	rounds, f := mergedOf(append(a[:len(a):len(a)], b...))
	if f.Err != api.OK {
		return nil, f
	}
	// Only now: a sum that is refused stands ahead of too many rounds.
	if len(rounds) > api.MaxRounds {
		return nil, tooLong()
	}
	return rounds, api.Fault{}
}

// Times multiplies two tides.
func Times(a, b []api.Round) ([]api.Round, api.Fault) {
	if f := checkBoth(a, b); f.Err != api.OK {
		return nil, f
	}
	var m merged
	for _, x := range a {
		for _, y := range b {
			// Merged rounds only grow in number, and whatever else might be refused has the same fault: so nothing behind the 65th one is made.
			if m.takeProduct(x, y) != api.OK || len(m.rounds) > api.MaxRounds {
				return nil, tooLong()
			}
		}
	}
	return m.rounds, api.Fault{}
}

// mergedOf merges rounds that may be; the first sum that is refused is told at its place.
func mergedOf(l []api.Round) ([]api.Round, api.Fault) {
	var m merged
	for at := 0; len(l) > 0; at++ {
		next := l[0]
		l = l[1:]
		if e := m.take(api.Round{Unit: copied(next.Unit), Number: copied(next.Number)}); e != api.OK {
			return nil, api.Fault{Err: e, At: at}
		}
	}
	return m.rounds, api.Fault{}
}

// merged holds rounds of unlike Units, in the order in which these were first met. It keeps the memory of what it takes.
type merged struct {
	rounds []api.Round
}

// take adds a round's Number to that of the same Unit, or puts the round behind the others.
func (m *merged) take(r api.Round) api.Errno {
	at := slices.IndexFunc(m.rounds, ofUnit(r.Unit))
	if at < 0 {
		m.rounds = append(m.rounds, r)
		return api.OK
	}
	sum, e := gauss.Add(m.rounds[at].Number, r.Number)
	if e != api.OK {
		return e
	}
	m.rounds[at].Number = sum
	return api.OK
}

// takeProduct takes the product of two rounds.
func (m *merged) takeProduct(x, y api.Round) api.Errno {
	unit, e := gauss.Mul(x.Unit, y.Unit)
	if e != api.OK {
		return e
	}
	number, e := gauss.Mul(x.Number, y.Number)
	if e != api.OK {
		return e
	}
	return m.take(api.Round{Unit: unit, Number: number})
}

// ofUnit tells of rounds whether they have this Unit.
func ofUnit(unit api.Gauss) func(api.Round) bool {
	re, im := like(unit.Re), like(unit.Im)
	return func(r api.Round) bool { return re(r.Unit.Re) && im(r.Unit.Im) }
}

// like holds fractions against this one. All are in their one form, so they are the same number just where all words are the same.
func like(a api.Ratio) func(api.Ratio) bool {
	return func(b api.Ratio) bool {
		return a.Neg == b.Neg && slices.Equal(a.Num, b.Num) && slices.Equal(a.Den, b.Den)
	}
}

// copied makes the same number in memory of its own.
func copied(a api.Gauss) api.Gauss {
	return api.Gauss{Re: copiedRatio(a.Re), Im: copiedRatio(a.Im)}
}

func copiedRatio(a api.Ratio) api.Ratio {
	return api.Ratio{Neg: a.Neg, Num: append([]uint32(nil), a.Num...), Den: append([]uint32(nil), a.Den...)}
}
