package water_test

import (
	"math"
	"slices"
	"strconv"
	"testing"

	"slackwater/api"
	"slackwater/water"
)

// some are waters that may be.
func some() []api.Water {
	return []api.Water{top(0, 0, q(3, 2)), bottom(1, 4, q(-1, 3)), top(9, 9, q(5, 1)), bottom(10, 11, q(0, 1)), top(4096, 1<<20-1, q(1, 3)), bottom(1<<20, 1<<20, q(1, 4))}
}

// zigzag are so many waters that may be.
func zigzag(n int) []api.Water {
	var l []api.Water
	for i := range n {
		l = append(l, api.Water{Tick: 2 * i, Last: 2*i + 1, Top: i%2 == 1, Height: q(int64(i%2), 1)})
	}
	return l
}

// P25.3: what may be.
func TestCheck(t *testing.T) {
	all := full(2048, 1<<32-1)
	fewer := slices.Clone(all)
	fewer[0] -= 2
	for key, l := range map[string][]api.Water{
		"nil": nil, "empty": {}, "one top": {top(0, 0, q(0, 1))}, "one bottom": {bottom(1<<20, 1<<20, q(-1, 2))}, "all ticks": {top(0, 1<<20, q(1, 1))},
		"some": some(), "some behind the first": some()[1:], "4,095": zigzag(4095), "4,096": zigzag(4096),
		"directly behind": {bottom(3, 3, q(1, 3)), top(4, 4, q(1, 2)), bottom(5, 5, q(1, 3))},
		"close":           {bottom(3, 3, r(false, fewer, ints(1))), top(4, 4, r(false, all, ints(1))), bottom(6, 6, q(0, 1)), top(7, 7, r(false, ints(1), all)), bottom(8, 8, r(true, ints(1), fewer)), top(9, 9, r(true, ints(1), all))},
	} {
		if f := water.Check(l); f != (api.Fault{}) {
			t.Errorf("%s: %+v", key, f)
		}
	}
}

// wrongWaters are waters at the place 2 of some that may not be there, and their errors.
func wrongWaters() map[string]struct {
	w    api.Water
	want api.Errno
} {
	type wrong = struct {
		w    api.Water
		want api.Errno
	}
	long, rough := r(false, full(2049, 1), ints(1)), r(false, ints(2), ints(4))
	l := map[string]wrong{
		"below 0":                     {top(-1, 9, q(5, 1)), api.ErrArg},
		"both below 0":                {top(-5, -3, q(5, 1)), api.ErrArg},
		"the least":                   {top(math.MinInt, math.MinInt, q(5, 1)), api.ErrArg},
		"beyond":                      {top(9, 1<<20+1, q(5, 1)), api.ErrArg},
		"both beyond":                 {top(1<<20+1, 1<<20+1, q(5, 1)), api.ErrArg},
		"the greatest":                {top(math.MaxInt, math.MaxInt, q(5, 1)), api.ErrArg},
		"Last below Tick":             {top(9, 8, q(5, 1)), api.ErrArg},
		"Last far below Tick":         {top(9, math.MinInt, q(5, 1)), api.ErrArg},
		"Last not given":              {top(9, 0, q(5, 1)), api.ErrArg},
		"at the Last ahead":           {top(4, 9, q(5, 1)), api.ErrArg},
		"within the one ahead":        {top(3, 9, q(5, 1)), api.ErrArg},
		"at the Tick ahead":           {top(1, 9, q(5, 1)), api.ErrArg},
		"ahead of the one ahead":      {top(0, 0, q(5, 1)), api.ErrArg},
		"a tick and too long":         {top(4, 9, long), api.ErrArg},
		"a tick and rough":            {top(9, 8, rough), api.ErrArg},
		"rough and beyond":            {top(9, 1<<21, rough), api.ErrArg},
		"a bottom and too long":       {bottom(9, 9, long), api.ErrLong},
		"a bottom and rough":          {bottom(9, 9, rough), api.ErrNormal},
		"a bottom and lower":          {bottom(9, 9, q(-5, 1)), api.ErrArg},
		"a bottom and higher":         {bottom(9, 9, q(5, 1)), api.ErrArg},
		"a bottom as low":             {bottom(9, 9, q(-1, 3)), api.ErrArg},
		"a top as low":                {top(9, 9, q(-1, 3)), api.ErrArg},
		"a top a little lower":        {top(9, 9, q(-2, 5)), api.ErrArg},
		"a top far lower":             {top(9, 9, q(-5, 1)), api.ErrArg},
		"nothing at all":              {api.Water{}, api.ErrArg},
		"a top without a height":      {top(9, 9, api.Ratio{}), api.ErrNormal},
		"a top with a rough height":   {top(9, 9, r(false, ints(5, 0), ints(1))), api.ErrNormal},
		"a top, too long by one":      {top(9, 9, long), api.ErrLong},
		"a top over what is too long": {top(9, 9, r(false, ints(1), full(2049, 1))), api.ErrLong},
	}
	for key, w := range wrongRatios() {
		l["height, "+key] = wrong{top(9, 9, w.a), w.want}
		l["height of a bottom, "+key] = wrong{bottom(9, 9, w.a), w.want}
		l["height at no tick, "+key] = wrong{top(4, 4, w.a), api.ErrArg}
	}
	return l
}

// refusedWaters looks whether Check tells this fault, and Highest and Lowest none.
func refusedWaters(t *testing.T, what string, l []api.Water, want api.Fault) {
	t.Helper()
	if f := water.Check(l); f != want {
		t.Errorf("%s: %+v, not %+v", what, f, want)
	}
	if k, ok := water.Highest(l); k != 0 || ok {
		t.Errorf("Highest of %s: %d %v", what, k, ok)
	}
	if k, ok := water.Lowest(l); k != 0 || ok {
		t.Errorf("Lowest of %s: %d %v", what, k, ok)
	}
}

// P25.3, rule 1: the first place counts, and there the first that is so.
func TestCheckRefuses(t *testing.T) {
	for key, w := range wrongWaters() {
		l := some()
		l[2] = w.w
		refusedWaters(t, key, l, fault(w.want, 2))
		for other, v := range wrongWaters() {
			behind := some()
			behind[2], behind[4] = w.w, v.w
			refusedWaters(t, key+" ahead of "+other, behind, fault(w.want, 2))
		}
	}
	for i := range some() {
		for key, w := range map[string]struct {
			change func(w *api.Water)
			want   api.Errno
		}{
			"below 0":  {func(w *api.Water) { w.Tick = -1 }, api.ErrArg},
			"beyond":   {func(w *api.Water) { w.Last = 1<<20 + 1 }, api.ErrArg},
			"no run":   {func(w *api.Water) { w.Last = w.Tick - 1 }, api.ErrArg},
			"rough":    {func(w *api.Water) { w.Height = r(true, nil, ints(1)) }, api.ErrNormal},
			"too long": {func(w *api.Water) { w.Height = r(false, ints(1), full(2049, 1)) }, api.ErrLong},
		} {
			l := some()
			key += " at " + strconv.Itoa(i)
			w.change(&l[i])
			refusedWaters(t, key, l, fault(w.want, i))
			refusedWaters(t, key+" ahead of others", append(l, api.Water{Tick: -1, Last: -1}), fault(w.want, i))
		}
		l := some()
		l[i].Top = !l[i].Top
		refusedWaters(t, "the other kind at "+strconv.Itoa(i), l, fault(api.ErrArg, max(i, 1)))
		if i > 0 {
			l = some()
			l[i].Height = l[i-1].Height
			refusedWaters(t, "as high at "+strconv.Itoa(i), l, fault(api.ErrArg, i))
			l = some()
			l[i].Tick = l[i-1].Last
			refusedWaters(t, "no later at "+strconv.Itoa(i), l, fault(api.ErrArg, i))
		}
	}
	for key, w := range wrongRatios() {
		refusedWaters(t, key+" alone", []api.Water{bottom(0, 0, w.a)}, fault(w.want, 0))
	}
}

// P25.3: at most 4,096, whatever they are.
func TestCheckOfTooMany(t *testing.T) {
	for _, n := range []int{4097, 4098, 9000} {
		refusedWaters(t, strconv.Itoa(n), zigzag(n), fault(api.ErrLong, -1))
		refusedWaters(t, strconv.Itoa(n)+" empty ones", make([]api.Water, n), fault(api.ErrLong, -1))
	}
	l := zigzag(4096)
	l[4095].Height = q(0, 1)
	refusedWaters(t, "the last of 4,096", l, fault(api.ErrArg, 4095))
	l[4095].Height = api.Ratio{}
	refusedWaters(t, "the last of 4,096 without a height", l, fault(api.ErrNormal, 4095))
}

// P25.3, P25.4: thrown waters, most of them with a fault.
func TestCheckOfThrownWaters(t *testing.T) {
	d := dice(255)
	right := 0
	for i := range 8000 {
		var l []api.Water
		tick, kind := d.below(3)-d.below(2)*d.below(2), d.below(2) == 0
		for range d.below(6) {
			last := tick + d.below(3) - d.below(9)/8
			height := q(int64(d.below(9)-4), int64(1+d.below(2)))
			if d.below(12) > 0 {
				height = q(int64(1+d.below(4)), 3)
				height.Neg = !kind
			}
			l = append(l, api.Water{Tick: tick, Last: last, Top: kind, Height: height})
			tick, kind = last+1+d.below(3)-d.below(9)/8, kind != (d.below(12) > 0)
		}
		want := faultOf(l)
		if f := water.Check(l); f != want {
			t.Fatalf("%d: %v: %+v, not %+v", i, l, f, want)
		}
		if want != (api.Fault{}) {
			continue
		}
		right++
		looked(t, l)
	}
	if right < 1000 {
		t.Errorf("%d that may be", right)
	}
}

// looked holds Highest and Lowest of waters that may be against a look through all pairs.
func looked(t *testing.T, l []api.Water) {
	t.Helper()
	high, isHigh := outermostOf(l, true)
	if k, ok := water.Highest(l); k != high || ok != isHigh {
		t.Errorf("Highest of %v: %d %v, not %d %v", l, k, ok, high, isHigh)
	}
	low, isLow := outermostOf(l, false)
	if k, ok := water.Lowest(l); k != low || ok != isLow {
		t.Errorf("Lowest of %v: %d %v, not %d %v", l, k, ok, low, isLow)
	}
}

// P25.4: none, one, several that are as high or as low, some that no float tells apart.
func TestHighestAndLowest(t *testing.T) {
	all := full(2048, 1<<32-1)
	fewer := slices.Clone(all)
	fewer[0] -= 2
	few, many := r(false, fewer, ints(1)), r(false, all, ints(1))
	for i, w := range []struct {
		l                 []api.Water
		highest, lowest   int
		hasTops, hasDowns bool
	}{
		{nil, 0, 0, false, false},
		{[]api.Water{top(0, 0, q(-1, 1))}, 0, 0, true, false},
		{[]api.Water{bottom(0, 0, q(1, 1))}, 0, 0, false, true},
		{some(), 2, 1, true, true},
		{[]api.Water{bottom(0, 0, q(-3, 1)), top(1, 1, q(-2, 1)), bottom(2, 2, q(-3, 1)), top(3, 3, q(-2, 1)), bottom(4, 4, q(-3, 1))}, 1, 0, true, true},
		{[]api.Water{top(0, 0, q(5, 1)), bottom(1, 1, q(1, 1)), top(2, 2, q(6, 1)), bottom(3, 3, q(0, 1)), top(4, 4, q(4, 1))}, 2, 3, true, true},
		{[]api.Water{top(0, 0, q(1, 2)), bottom(1, 1, q(0, 1)), top(2, 2, q(3, 5)), bottom(3, 3, q(-1, 9)), top(4, 4, q(3, 5)), bottom(5, 5, q(-1, 9))}, 2, 3, true, true},
		{[]api.Water{top(0, 0, few), bottom(1, 1, q(0, 1)), top(2, 2, many), bottom(3, 3, r(true, ints(1), all)), top(4, 4, few), bottom(5, 5, r(true, ints(1), fewer)), top(6, 6, many)}, 2, 5, true, true},
		{[]api.Water{bottom(0, 0, few), top(1, 1, many), bottom(2, 9, few)}, 1, 0, true, true},
	} {
		k, ok := water.Highest(w.l)
		m, too := water.Lowest(w.l)
		if k != w.highest || ok != w.hasTops || m != w.lowest || too != w.hasDowns {
			t.Errorf("%d: %d %v, %d %v", i, k, ok, m, too)
		}
		looked(t, w.l)
	}
	l := zigzag(4096)
	l[4095].Height, l[4094].Height = q(9, 1), q(-1, 1)
	if k, ok := water.Highest(l); k != 4095 || !ok {
		t.Errorf("Highest at the end: %d %v", k, ok)
	}
	if k, ok := water.Lowest(l); k != 4094 || !ok {
		t.Errorf("Lowest near the end: %d %v", k, ok)
	}
	if k, ok := water.Highest(zigzag(4096)); k != 1 || !ok {
		t.Errorf("Highest of many: %d %v", k, ok)
	}
	if k, ok := water.Lowest(zigzag(4096)); k != 0 || !ok {
		t.Errorf("Lowest of many: %d %v", k, ok)
	}
}
