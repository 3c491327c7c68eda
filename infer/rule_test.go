package infer_test

import (
	"strconv"
	"strings"
	"testing"

	"slackwater/api"
	"slackwater/infer"
)

// P24.4

func TestCheck(t *testing.T) {
	u, half := o(2, 1), re(q(1, 2))
	for key, c := range map[string]struct {
		r    api.Rule
		want api.Errno
	}{
		"one":                      {rule("A", "B", u, half), api.OK},
		"a ratio of 0":             {rule("K1", "P1", u, z(0, 0)), api.OK},
		"a ratio of 1":             {rule("K1", "P1", u, z(1, 0)), api.OK},
		"a ratio of i":             {rule("K1", "P1", u, z(0, 1)), api.OK},
		"a ratio of -i":            {rule("K1", "P1", u, z(0, -1)), api.OK},
		"a ratio of -1 + i":        {rule("K1", "P1", u, z(-1, 1)), api.OK},
		"a ratio of -2":            {rule("K1", "P1", u, z(-2, 0)), api.OK},
		"a ratio of -1/2":          {rule("K1", "P1", u, re(q(-1, 2))), api.OK},
		"a ratio of -1":            {rule("K1", "P1", u, z(-1, 0)), api.ErrZero},
		"a long ratio":             {rule("K1", "P1", u, g(r(true, full(2048, 1<<32-1), ints(1)), under(65535))), api.OK},
		"names of 20":              {rule(strings.Repeat("z", 20), strings.Repeat("Z", 20), o(1, -1000), half), api.OK},
		"names unlike in one byte": {rule("m2", "M2", u, half), api.OK},
		"one ahead of the other":   {rule("M", "M2", u, half), api.OK},
		"the same names":           {rule("M2", "M2", u, half), api.ErrName},
		"nothing":                  {api.Rule{}, api.ErrName},
		"all but the names":        {rule("", "", u, half), api.ErrName},
		"names alone":              {api.Rule{From: "A", Name: "B"}, api.ErrRotor},
		"names and a rotor":        {rule("A", "B", u, api.Gauss{}), api.ErrNormal},
		"names and -1":             {rule("A", "B", api.Rotor{}, z(-1, 0)), api.ErrRotor},
		"the same names and -1":    {rule("A", "A", api.Rotor{}, z(-1, 0)), api.ErrName},
	} {
		if e := infer.Check(c.r); e != c.want {
			t.Errorf("Check of %s: %v, not %v", key, e, c.want)
		}
	}
}

// wrongRule is a rule that may not be, and its error.
type wrongRule struct {
	r    api.Rule
	want api.Errno
}

// wrongRules are such by From, Name, Rotor, Ratio, and by several of these: the first one's error is told.
func wrongRules() map[string]wrongRule {
	u, ratio := o(7, 2), z(1, 2)
	rules := map[string]wrongRule{
		"nothing":        {api.Rule{}, api.ErrName},
		"the same names": {rule("T1", "T1", u, ratio), api.ErrName},
		"-1":             {rule("T1", "N", u, z(-1, 0)), api.ErrZero},
	}
	for _, s := range noNames() {
		rules["From "+s] = wrongRule{rule(s, "N", u, ratio), api.ErrName}
		rules["Name "+s] = wrongRule{rule("T1", s, u, ratio), api.ErrName}
		rules["both names "+s] = wrongRule{rule(s, s, u, ratio), api.ErrName}
		rules["all, From "+s] = wrongRule{rule(s, "N", o(0, 0), api.Gauss{}), api.ErrName}
		rules["all, Name "+s] = wrongRule{rule("T1", s, o(1, 1), z(-1, 0)), api.ErrName}
	}
	for _, x := range noRotors() {
		key := strconv.Itoa(int(x.Far)) + " " + strconv.Itoa(int(x.Near))
		rules["the rotor "+key] = wrongRule{rule("T1", "N", x, ratio), api.ErrRotor}
		rules["the rotor and the ratio "+key] = wrongRule{rule("T1", "N", x, api.Gauss{}), api.ErrRotor}
		rules["the rotor and -1 "+key] = wrongRule{rule("T1", "N", x, z(-1, 0)), api.ErrRotor}
	}
	for key, w := range wrongNumbers() {
		rules["the ratio "+key] = wrongRule{rule("T1", "N", u, w.a), w.want}
	}
	return rules
}

func TestCheckRefuses(t *testing.T) {
	for key, w := range wrongRules() {
		if e := infer.Check(w.r); e != w.want {
			t.Errorf("Check of %s: %v, not %v", key, e, w.want)
		}
	}
}

// Each byte at each place of a name.
func TestCheckOfNames(t *testing.T) {
	for b := range 256 {
		for place := range 3 {
			name := []byte("M2x")
			name[place] = byte(b)
			for _, x := range []api.Rule{rule("A", string(name), o(2, 1), z(0, 1)), rule(string(name), "A", o(2, 1), z(0, 1))} {
				if e := infer.Check(x); e != checked(x) {
					t.Errorf("Check of %q and %q: %v, not %v", x.From, x.Name, e, checked(x))
				}
			}
		}
	}
}
