package infer

import (
	"slices"

	"slackwater/api"
	"slackwater/gauss"
	"slackwater/rotor"
	"slackwater/tide"
)

// Split parts a total in two, of which the second is the ratio times the first.
func Split(total, ratio api.Gauss) (api.Gauss, api.Gauss, api.Errno) {
	if e := gauss.Check(total); e != api.OK {
		return api.Gauss{}, api.Gauss{}, e
	}
	if e := checkRatio(ratio); e != api.OK {
		return api.Gauss{}, api.Gauss{}, e
	}
	both, e := gauss.Add(gauss.Int(1, 0), ratio)
	if e != api.OK {
		return api.Gauss{}, api.Gauss{}, e
	}
	first, e := gauss.Quo(total, both)
	if e != api.OK {
		return api.Gauss{}, api.Gauss{}, e
	}
	second, e := gauss.Mul(ratio, first)
	if e != api.OK {
		return api.Gauss{}, api.Gauss{}, e
	}
	return first, second, api.OK
}

// Check tells whether a rule may be: by its names, its rotor, its ratio.
func Check(r api.Rule) api.Errno {
	if !tide.Name(r.From) || !tide.Name(r.Name) || r.From == r.Name {
		return api.ErrName
	}
	if e := rotor.Check(r.Rotor); e != api.OK {
		return e
	}
	return checkRatio(r.Ratio)
}

// Apply parts constituents by rules, one rule behind the other. A rule's fault is told at its place behind the places of l.
func Apply(l []api.Tide, rules []api.Rule) ([]api.Tide, api.Fault) {
	if f := checkTides(l); f.Err != api.OK {
		return nil, f
	}
	if len(rules) > api.MaxTides {
		return nil, atNone(api.ErrLong)
	}
	tides := copied(l)
	for i, r := range rules {
		var e api.Errno
		if tides, e = parted(tides, r); e != api.OK {
			return nil, api.Fault{Err: e, At: len(l) + i}
		}
	}
	return tides, api.Fault{}
}

// checkRatio tells whether a total may be parted by a ratio: by -1 both would come to 0 together, whatever they are.
func checkRatio(ratio api.Gauss) api.Errno {
	if e := gauss.Check(ratio); e != api.OK {
		return e
	}
	if gauss.Same(ratio, gauss.Int(-1, 0)) {
		return api.ErrZero
	}
	return api.OK
}

// checkTides tells what is wrong with constituents: too many of them, or the first that may not be.
func checkTides(l []api.Tide) api.Fault {
	if len(l) > api.MaxTides {
		return atNone(api.ErrLong)
	}
	for i, c := range l {
		if e := tide.Check(c); e != api.OK {
			return api.Fault{Err: e, At: i}
		}
	}
	return api.Fault{}
}

// copied are the same constituents in memory of their own.
func copied(l []api.Tide) []api.Tide {
	tides := make([]api.Tide, len(l))
	for i, c := range l {
		tides[i] = tide.Copy(c)
	}
	return tides
}

// parted applies one rule: the list is changed in place, and the new constituent stands behind all others.
func parted(tides []api.Tide, r api.Rule) ([]api.Tide, api.Errno) {
	if e := Check(r); e != api.OK {
		return nil, e
	}
	from := slices.IndexFunc(tides, func(c api.Tide) bool { return c.Name == r.From })
	if from < 0 {
		return nil, api.ErrMissing
	}
	if slices.ContainsFunc(tides, func(c api.Tide) bool { return c.Name == r.Name || c.Rotor == r.Rotor }) {
		return nil, api.ErrThere
	}
	if len(tides) >= api.MaxTides {
		return nil, api.ErrLong
	}
	first, second, e := Split(tides[from].Number, r.Ratio)
	if e != api.OK {
		return nil, e
	}
	tides[from].Number = first
	return append(tides, api.Tide{Name: r.Name, Rotor: r.Rotor, Number: second}), api.OK
}
