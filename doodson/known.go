package doodson

import (
	"iter"
	"maps"
	"slices"

	"slackwater/api"
)

// table has the known constituents' numbers by their names; no two have the same.
func table() map[string]api.Doodson {
	return map[string]api.Doodson{
		"K1":  {1, 1, 0, 0, 0, 0},
		"K2":  {2, 2, 0, 0, 0, 0},
		"L2":  {2, 1, 0, -1, 0, 0},
		"M2":  {2, 0, 0, 0, 0, 0},
		"M4":  {4, 0, 0, 0, 0, 0},
		"MS4": {4, 2, -2, 0, 0, 0},
		"Mf":  {0, 2, 0, 0, 0, 0},
		"Mm":  {0, 1, 0, -1, 0, 0},
		"N2":  {2, -1, 0, 1, 0, 0},
		"N2x": {2, -2, 0, 2, 0, 0},
		"O1":  {1, -1, 0, 0, 0, 0},
		"P1":  {1, 1, -2, 0, 0, 0},
		"Q1":  {1, -2, 0, 1, 0, 0},
		"S2":  {2, 2, -2, 0, 0, 0},
		"Sa":  {0, 0, 1, 0, 0, 0},
		"Ssa": {0, 0, 2, 0, 0, 0},
	}
}

// Known tells the numbers of a known constituent.
func Known(name string) (api.Doodson, api.Errno) {
	n, ok := table()[name]
	if !ok {
		return api.Doodson{}, api.ErrMissing
	}
	return n, api.OK
}

// Name tells the known constituent that has these numbers.
func Name(n api.Doodson) (string, bool) {
	rows := table()
	for name := range Names() {
		if rows[name] == n {
			return name, true
		}
	}
	return "", false
}

// Names goes over the known constituents' names, rising.
func Names() iter.Seq[string] {
	names := slices.Sorted(maps.Keys(table()))
	return func(yield func(string) bool) {
		for _, name := range names {
			if !yield(name) {
				return
			}
		}
	}
}
