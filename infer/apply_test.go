package infer_test

import (
	"slices"
	"strconv"
	"testing"

	"slackwater/api"
	"slackwater/gauss"
	"slackwater/infer"
)

// P24.5

// applyOf hands on what Apply answers, which may not be refused and whose Numbers must be in their one form.
func applyOf(t *testing.T, l []api.Tide, rules []api.Rule) []api.Tide {
	t.Helper()
	got, f := infer.Apply(l, rules)
	if f != (api.Fault{}) {
		t.Fatalf("Apply answered %+v", f)
	}
	for i, c := range got {
		if e := gauss.Check(c.Number); e != api.OK {
			t.Fatalf("Apply: the Number %d is not in its one form: %v", i, e)
		}
	}
	return got
}

// applyRefused looks whether Apply answers just this fault, and nothing beside it.
func applyRefused(t *testing.T, what string, l []api.Tide, rules []api.Rule, want api.Fault) {
	t.Helper()
	if got, f := infer.Apply(l, rules); f != want || len(got) > 0 {
		t.Errorf("Apply, %s: %+v, %d constituents, not %+v alone", what, f, len(got), want)
	}
}

// applyAs holds what Apply answers against the definition, and tells the fault that it should be.
func applyAs(t *testing.T, what string, l []api.Tide, rules []api.Rule) api.Fault {
	t.Helper()
	want, f := applied(l, rules)
	if f != (api.Fault{}) {
		applyRefused(t, what, l, rules, f)
	} else if !sameTides(applyOf(t, l, rules), want) {
		t.Errorf("Apply, %s: not as it should be", what)
	}
	return f
}

func TestApply(t *testing.T) {
	u, v, w := o(2, 1), o(2, -1), o(3, 1)
	half, one, three := re(q(1, 2)), z(1, 0), z(3, 0)
	a := tide("A", u, three)
	for key, c := range map[string]struct {
		l     []api.Tide
		rules []api.Rule
		want  []api.Tide
	}{
		"no constituents, no rules": {nil, nil, nil},
		"no rules":                  {[]api.Tide{a, tide("B", v, half)}, nil, []api.Tide{a, tide("B", v, half)}},
		"one rule":                  {[]api.Tide{a}, []api.Rule{rule("A", "B", v, half)}, []api.Tide{tide("A", u, z(2, 0)), tide("B", v, one)}},
		"a ratio of 0":              {[]api.Tide{a}, []api.Rule{rule("A", "B", v, z(0, 0))}, []api.Tide{a, tide("B", v, z(0, 0))}},
		"a ratio of -2":             {[]api.Tide{a}, []api.Rule{rule("A", "B", v, z(-2, 0))}, []api.Tide{tide("A", u, z(-3, 0)), tide("B", v, z(6, 0))}},
		"a Number of 0":             {[]api.Tide{tide("A", u, z(0, 0))}, []api.Rule{rule("A", "B", v, z(0, 1))}, []api.Tide{tide("A", u, z(0, 0)), tide("B", v, z(0, 0))}},
		"a complex ratio":           {[]api.Tide{tide("A", u, z(2, 0))}, []api.Rule{rule("A", "B", v, z(0, 1))}, []api.Tide{tide("A", u, z(1, -1)), tide("B", v, z(1, 1))}},
		"of what a rule parted off": {[]api.Tide{a}, []api.Rule{rule("A", "B", v, half), rule("B", "C", w, one)}, []api.Tide{tide("A", u, z(2, 0)), tide("B", v, half), tide("C", w, half)}},
		"one from, two rules":       {[]api.Tide{a}, []api.Rule{rule("A", "B", v, half), rule("A", "C", w, one)}, []api.Tide{tide("A", u, one), tide("B", v, one), tide("C", w, one)}},
		"the second of three":       {[]api.Tide{a, tide("X", w, three), tide("Y", o(4, 1), three)}, []api.Rule{rule("X", "B", v, half)}, []api.Tide{a, tide("X", w, z(2, 0)), tide("Y", o(4, 1), three), tide("B", v, one)}},
		"the last of three":         {[]api.Tide{a, tide("X", w, three), tide("Y", o(4, 1), three)}, []api.Rule{rule("Y", "B", v, half)}, []api.Tide{a, tide("X", w, three), tide("Y", o(4, 1), z(2, 0)), tide("B", v, one)}},
		"one name twice":            {[]api.Tide{a, tide("A", w, three)}, []api.Rule{rule("A", "B", v, half)}, []api.Tide{tide("A", u, z(2, 0)), tide("A", w, three), tide("B", v, one)}},
		"one twice, another's rule": {[]api.Tide{a, a, tide("X", w, three)}, []api.Rule{rule("X", "B", v, half)}, []api.Tide{a, a, tide("X", w, z(2, 0)), tide("B", v, one)}},
		"one rotor twice":           {[]api.Tide{a, tide("X", u, three)}, []api.Rule{rule("X", "B", v, half)}, []api.Tide{a, tide("X", u, z(2, 0)), tide("B", v, one)}},
		"names unlike in one byte":  {[]api.Tide{a, tide("a", w, three)}, []api.Rule{rule("a", "b", v, half)}, []api.Tide{a, tide("a", w, z(2, 0)), tide("b", v, one)}},
	} {
		if got := applyOf(t, c.l, c.rules); !sameTides(got, c.want) {
			t.Errorf("Apply, %s: %v", key, got)
		}
		applyAs(t, key, c.l, c.rules)
	}
}

func TestApplyRefusesRules(t *testing.T) {
	u, v, w := o(2, 1), o(2, -1), o(3, 1)
	half, none := re(q(1, 2)), z(-1, 0)
	l := []api.Tide{tide("A", u, z(3, 0)), tide("X", w, z(1, 0))}
	long := []api.Tide{tide("A", u, re(wide(65535)))}
	first := rule("A", "B", v, half)
	for key, c := range map[string]struct {
		l     []api.Tide
		rules []api.Rule
		want  api.Fault
	}{
		"no such From":                        {l, []api.Rule{rule("C", "B", v, half)}, fault(api.ErrMissing, 2)},
		"From in other letters":               {l, []api.Rule{rule("a", "B", v, half)}, fault(api.ErrMissing, 2)},
		"From begins so":                      {l, []api.Rule{rule("A1", "B", v, half)}, fault(api.ErrMissing, 2)},
		"From comes behind":                   {l, []api.Rule{rule("B", "C", o(4, 1), half), first}, fault(api.ErrMissing, 2)},
		"no constituents":                     {nil, []api.Rule{first}, fault(api.ErrMissing, 0)},
		"missing ahead of the name":           {l, []api.Rule{rule("C", "A", v, half)}, fault(api.ErrMissing, 2)},
		"missing ahead of the rotor":          {l, []api.Rule{rule("C", "B", u, half)}, fault(api.ErrMissing, 2)},
		"the name of From's neighbour":        {l, []api.Rule{rule("A", "X", v, half)}, fault(api.ErrThere, 2)},
		"the name of the first":               {l, []api.Rule{rule("X", "A", v, half)}, fault(api.ErrThere, 2)},
		"From's rotor":                        {l, []api.Rule{rule("A", "B", u, half)}, fault(api.ErrThere, 2)},
		"another's rotor":                     {l, []api.Rule{rule("A", "B", w, half)}, fault(api.ErrThere, 2)},
		"name and rotor":                      {l, []api.Rule{rule("A", "X", w, half)}, fault(api.ErrThere, 2)},
		"the name of what was parted off":     {l, []api.Rule{first, rule("A", "B", o(4, 1), half)}, fault(api.ErrThere, 3)},
		"the rotor of what was parted off":    {l, []api.Rule{first, rule("A", "C", v, half)}, fault(api.ErrThere, 3)},
		"the same rule twice":                 {l, []api.Rule{first, first}, fault(api.ErrThere, 3)},
		"there ahead of too long":             {long, []api.Rule{rule("A", "B", u, z(1, 0))}, fault(api.ErrThere, 1)},
		"the same names":                      {l, []api.Rule{rule("A", "A", v, half)}, fault(api.ErrName, 2)},
		"the names ahead of missing":          {l, []api.Rule{rule("C", "C", u, none)}, fault(api.ErrName, 2)},
		"the rotor ahead of missing":          {l, []api.Rule{rule("C", "A", api.Rotor{}, none)}, fault(api.ErrRotor, 2)},
		"-1":                                  {l, []api.Rule{rule("A", "B", v, none)}, fault(api.ErrZero, 2)},
		"-1 ahead of missing":                 {l, []api.Rule{rule("C", "B", v, none)}, fault(api.ErrZero, 2)},
		"-1 ahead of there":                   {l, []api.Rule{rule("A", "X", w, none)}, fault(api.ErrZero, 2)},
		"-1 of what is 0":                     {[]api.Tide{tide("A", u, z(0, 0))}, []api.Rule{rule("A", "B", v, none)}, fault(api.ErrZero, 1)},
		"too long":                            {long, []api.Rule{rule("A", "B", v, z(1, 0))}, fault(api.ErrLong, 1)},
		"too long, the second":                {long, []api.Rule{rule("A", "B", v, z(0, 0)), rule("A", "C", w, z(1, 0))}, fault(api.ErrLong, 2)},
		"too long, of what was parted off":    {[]api.Tide{tide("A", u, re(wide(60000)))}, []api.Rule{rule("A", "B", v, z(1, 0)), rule("B", "C", w, re(wide(32000)))}, fault(api.ErrLong, 2)},
		"a ratio too long":                    {l, []api.Rule{rule("A", "B", v, re(wide(32768)))}, fault(api.ErrLong, 2)},
		"a ratio too long, missing":           {l, []api.Rule{rule("C", "B", v, re(wide(32768)))}, fault(api.ErrMissing, 2)},
		"the first fault of two":              {l, []api.Rule{rule("C", "B", v, half), {}}, fault(api.ErrMissing, 2)},
		"the first fault of two, other order": {l, []api.Rule{{}, rule("C", "B", v, half)}, fault(api.ErrName, 2)},
	} {
		applyRefused(t, key, c.l, c.rules, c.want)
		if f := applyAs(t, key, c.l, c.rules); f != c.want {
			t.Errorf("%s: %+v, not %+v", key, f, c.want)
		}
	}
}

// A rule's place is counted on behind the list that was handed in, whatever stands behind that by then.
func TestPlacesOfRules(t *testing.T) {
	for count := 1; count <= 12; count++ {
		for place := range 12 {
			for key, w := range map[string]wrongRule{
				"nothing": {api.Rule{}, api.ErrName}, "no such From": {rule("C", "D", o(7, 2), z(1, 0)), api.ErrMissing}, "the rotor there": {rule("T1", "D", o(2, 1), z(1, 0)), api.ErrThere},
				"-1": {rule("T1", "D", o(7, 2), z(-1, 0)), api.ErrZero}, "too long": {rule("T1", "D", o(7, 2), im(wide(32768))), api.ErrLong},
			} {
				rules := manyRules(12)
				rules[place] = w.r
				applyRefused(t, key+" at "+strconv.Itoa(place), many(count), rules, fault(w.want, count+place))
			}
		}
	}
	for key, w := range wrongRules() {
		applyRefused(t, key+", alone", many(3), []api.Rule{w.r}, fault(w.want, 3))
		applyRefused(t, key+", the third", many(3), append(manyRules(2), w.r, api.Rule{}), fault(w.want, 5))
		applyRefused(t, key+", no room", many(24), []api.Rule{w.r}, fault(w.want, 24))
	}
}

// How many: constituents ahead of what they are, then rules, then the constituents that there are by then.
func TestHowMany(t *testing.T) {
	for count := 1; count <= 24; count++ {
		for rules := range 25 {
			what := strconv.Itoa(count) + " constituents, rules: " + strconv.Itoa(rules)
			want := api.Fault{}
			if count+rules > 24 {
				want = fault(api.ErrLong, 24)
			}
			if f := applyAs(t, what, many(count), manyRules(rules)); f != want {
				t.Errorf("%s: %+v, not %+v", what, f, want)
			}
		}
	}
	for _, rules := range []int{25, 26, 1000} {
		for _, count := range []int{0, 1, 24} {
			applyRefused(t, "many rules", many(count), manyRules(rules), fault(api.ErrLong, -1))
			applyRefused(t, "many empty rules", many(count), make([]api.Rule, rules), fault(api.ErrLong, -1))
		}
		applyRefused(t, "many rules, an empty constituent", append(many(3), api.Tide{}), manyRules(rules), fault(api.ErrName, 3))
	}
	for _, count := range []int{25, 26, 1000} {
		for _, rules := range []int{0, 1, 25} {
			applyRefused(t, "many constituents", many(count), manyRules(rules), fault(api.ErrLong, -1))
			applyRefused(t, "many empty constituents", make([]api.Tide, count), make([]api.Rule, rules), fault(api.ErrLong, -1))
		}
	}
	// A full list: what else is wrong with the rule stands ahead of that.
	applyRefused(t, "full, and no such From", many(24), []api.Rule{rule("C", "D", o(7, 2), z(1, 0))}, fault(api.ErrMissing, 24))
	applyRefused(t, "full, and the name there", many(24), []api.Rule{rule("T1", "T24", o(7, 2), z(1, 0))}, fault(api.ErrThere, 24))
	applyRefused(t, "full, and the rotor there", many(24), []api.Rule{rule("T1", "D", o(25, 1), z(1, 0))}, fault(api.ErrThere, 24))
}

// wrongTide is a constituent that may not be, and its error.
type wrongTide struct {
	c    api.Tide
	want api.Errno
}

// wrongTides are such by their name, rotor, number, and by several of these: the first one's error is told.
func wrongTides() map[string]wrongTide {
	tides := map[string]wrongTide{"nothing": {api.Tide{}, api.ErrName}}
	for _, s := range noNames() {
		tides["the name "+s] = wrongTide{tide(s, o(2, 1), z(1, 0)), api.ErrName}
		tides["all, the name "+s] = wrongTide{tide(s, o(0, 0), api.Gauss{}), api.ErrName}
	}
	for _, x := range noRotors() {
		key := strconv.Itoa(int(x.Far)) + " " + strconv.Itoa(int(x.Near))
		tides["the rotor "+key] = wrongTide{tide("A", x, z(1, 0)), api.ErrRotor}
		tides["the number, too, the rotor "+key] = wrongTide{tide("A", x, api.Gauss{}), api.ErrRotor}
	}
	for key, w := range wrongNumbers() {
		tides["the number, "+key] = wrongTide{tide("A", o(7, 2), w.a), w.want}
	}
	return tides
}

// Each place of a constituent that may not be: those behind it have another error, and so have the rules.
func TestApplyRefusesConstituents(t *testing.T) {
	for key, w := range wrongTides() {
		for place := range 24 {
			l := many(24)
			l[place] = w.c
			what := "the constituent " + strconv.Itoa(place) + ", " + key
			applyRefused(t, what, l, nil, fault(w.want, place))
			for k := place + 1; k < 24; k++ {
				l[k] = tide("A", o(7, 2), other(w.want))
			}
			applyRefused(t, what+", others behind", l, []api.Rule{{}}, fault(w.want, place))
			applyRefused(t, what+", too many rules", l, make([]api.Rule, 25), fault(w.want, place))
		}
	}
}

// thrown throws constituents and rules of few names and rotors, some of which may not be.
func (d *dice) thrown() ([]api.Tide, []api.Rule) {
	names := []string{"A", "B", "C", "D", "E", "F", "G", "H", "I", "J", "K", "L", "M", "N"}
	name := func() string { return names[d.below(len(names))] }
	rotors := append(slices.Concat(eight(), widest()), o(4, 1), o(4, 3), o(5, 2), o(6, 1), o(7, 2), o(7, 4), o(8, 1), o(8, 3), o(9, 2), o(9, 4))
	turn := func() api.Rotor { return rotors[d.below(len(rotors))] }
	var l []api.Tide
	for range 1 + d.below(8) {
		l = append(l, tide(name(), turn(), d.number()))
	}
	var rules []api.Rule
	for range d.below(7) {
		x := rule(l[d.below(len(l))].Name, name(), turn(), d.number())
		switch d.below(30) {
		case 0:
			x.Ratio = z(-1, 0)
		case 1:
			x.Rotor = noRotors()[d.below(len(noRotors()))]
		case 2:
			x.From = noNames()[d.below(len(noNames()))]
		case 3:
			x.Ratio = d.long()
		case 4, 5:
			x.From = name()
		}
		rules = append(rules, x)
	}
	return l, rules
}

func TestApplyThrown(t *testing.T) {
	d := dice(2404)
	count := map[api.Errno]int{}
	for range 600 {
		l, rules := d.thrown()
		count[applyAs(t, "thrown", l, rules).Err]++
	}
	for _, e := range []api.Errno{api.OK, api.ErrLong, api.ErrName, api.ErrThere, api.ErrMissing, api.ErrZero, api.ErrRotor} {
		if count[e] < 5 {
			t.Errorf("answered %v", count)
		}
	}
}
