package analyse_test

import (
	"slices"
	"strconv"
	"testing"

	"slackwater/api"
)

// P23.1

func TestExact(t *testing.T) {
	u, v := o(2, 1), o(2, -1)
	for i, c := range []struct {
		ticks   []int
		heights []string
		rotors  []api.Rotor
		want    []string
	}{
		{[]int{0, 1}, []string{"1 0", "3/5 4/5"}, []api.Rotor{u}, []string{"1 0"}},
		{[]int{0, 1}, []string{"1 0", "0 0"}, []api.Rotor{u}, []string{"1/2 0"}},
		{[]int{0, 1}, []string{"0 0", "1 0"}, []api.Rotor{u}, []string{"3/10 -2/5"}},
		{[]int{0, 1}, []string{"2 0", "6/5 0"}, []api.Rotor{u, v}, []string{"1 0", "1 0"}},
		{[]int{0, 1}, []string{"1 0", "3/5 4/5"}, []api.Rotor{u, v}, []string{"1 0", "0 0"}},
		{[]int{0, 1}, []string{"1 0", "3/5 4/5"}, []api.Rotor{v, u}, []string{"0 0", "1 0"}},
		{[]int{1}, []string{"0 5"}, []api.Rotor{u}, []string{"4 3"}},
		{[]int{2}, []string{"25 0"}, []api.Rotor{u}, []string{"-7 -24"}},
		{[]int{1024}, []string{"0 0"}, []api.Rotor{o(1000, 999)}, []string{"0 0"}},
		{[]int{0, 1}, []string{"0 0", "0 0"}, []api.Rotor{u, v}, []string{"0 0", "0 0"}},
		{[]int{0}, []string{"-1/2 2/3"}, []api.Rotor{o(7, 4)}, []string{"-1/2 2/3"}},
		{[]int{0, 1}, []string{"1 2", "3 4"}, nil, nil},
		{nil, nil, nil, nil},
	} {
		got := must(t, "Exact", given{ticks: c.ticks, heights: read(t, c.heights...), rotors: c.rotors})
		if !got.is(answer{tides: tidesOf(c.rotors, read(t, c.want...))}) {
			t.Errorf("Exact %d: not as it should be", i)
		}
	}
}

// The constituents have the names R1, R2, .. in the order of the rotors, whatever that is.
func TestNames(t *testing.T) {
	rotors := eight()
	for range 2 {
		for k := range 9 {
			ticks := span(3, 3+k)
			got := must(t, "Exact", given{ticks: ticks, heights: whole(k), rotors: rotors[:k]})
			if len(got.tides) != k {
				t.Fatalf("%d constituents of %d rotors", len(got.tides), k)
			}
			for i, c := range got.tides {
				if want := []string{"R1", "R2", "R3", "R4", "R5", "R6", "R7", "R8"}[i]; c.Name != want || c.Rotor != rotors[i] {
					t.Errorf("the constituent %d of %d: %q %v, not %q %v", i, k, c.Name, c.Rotor, want, rotors[i])
				}
			}
		}
		slices.Reverse(rotors)
	}
}

// exactAs holds what Exact answers against the definition, and tells the error that it should be.
func exactAs(t *testing.T, what string, ticks []int, heights []api.Gauss, rotors []api.Rotor) api.Errno {
	t.Helper()
	x, want := given{ticks: ticks, heights: heights, rotors: rotors}, analysed(ticks, heights, rotors)
	if want.e != api.OK {
		refused(t, "Exact", what, x, want.e)
		return want.e
	}
	if !must(t, "Exact", x).is(want) {
		t.Errorf("Exact, %s: not as it should be", what)
	}
	return api.OK
}

func TestExactOverTicks(t *testing.T) {
	for _, ticks := range [][]int{nil, {0}, {1}, {5}, {0, 1}, {0, 7}, {3, 4, 9}, span(0, 20), span(7, 16), {0, 100, 101}, {99, 130}} {
		for _, rotors := range [][]api.Rotor{nil, pair(), eight()[:3], eight()[5:], eight()} {
			exactAs(t, "small numbers", ticks, whole(len(ticks)), rotors)
		}
	}
	exactAs(t, "late ticks", []int{0, 1023, 1024}, whole(3), []api.Rotor{o(3, 1), o(3, 2)})
	exactAs(t, "256 ticks", span(0, 256), whole(256), pair())
	exactAs(t, "the last 256 ticks", span(769, 1025), whole(256), pair()[:1])
}

func TestExactThrown(t *testing.T) {
	d := dice(2301)
	count := map[api.Errno]int{}
	for i := range 160 {
		ticks := d.ticks(9, 30)
		count[exactAs(t, "thrown", ticks, d.numbers(len(ticks)), d.rotors([]int{4, 4, 4, 8}[i%4]))]++
	}
	for range 5 {
		ticks := d.ticks(4, 1024)
		exactAs(t, "thrown, late", ticks, d.numbers(len(ticks)), d.rotors(2))
	}
	if count[api.OK] < 60 || count[api.ErrSingular] < 20 {
		t.Errorf("answered %v", count)
	}
}

// Fewer ticks than rotors are too few; as many may be, where rotors come to one at all of the ticks.
func TestSingular(t *testing.T) {
	for ticks := range 8 {
		for rotors := ticks + 1; rotors <= 8; rotors++ {
			x := given{ticks: span(2, 2+ticks), heights: whole(ticks), rotors: eight()[:rotors]}
			refused(t, "Exact", strconv.Itoa(ticks)+" ticks, "+strconv.Itoa(rotors)+" rotors", x, api.ErrSingular)
		}
	}
	// The number of (1 3) is i times that of (2 1), the number of (1 -2) that one's opposite.
	u, onward, back := o(2, 1), o(1, 3), o(1, -2)
	for key, c := range map[string]struct {
		ticks  []int
		rotors []api.Rotor
		want   api.Errno
	}{
		"opposites, at even ticks":         {[]int{0, 2}, []api.Rotor{u, back}, api.ErrSingular},
		"opposites, at many even ticks":    {[]int{0, 2, 4, 8, 20}, []api.Rotor{u, back}, api.ErrSingular},
		"opposites, at odd ticks":          {[]int{1, 3, 7}, []api.Rotor{back, u}, api.ErrSingular},
		"opposites, at both":               {[]int{0, 3}, []api.Rotor{u, back}, api.OK},
		"a quarter, every fourth tick":     {[]int{0, 4, 8}, []api.Rotor{u, onward}, api.ErrSingular},
		"a quarter, every second tick":     {[]int{0, 2}, []api.Rotor{u, onward}, api.OK},
		"a quarter, three apart":           {[]int{1, 4}, []api.Rotor{onward, u}, api.OK},
		"two of three, every fourth tick":  {[]int{0, 4, 8}, []api.Rotor{u, o(3, 2), onward}, api.ErrSingular},
		"three of three, one behind other": {[]int{4, 5, 6}, []api.Rotor{u, o(3, 2), onward}, api.OK},
	} {
		if e := exactAs(t, key, c.ticks, whole(len(c.ticks)), c.rotors); e != c.want {
			t.Errorf("%s: %v, not %v", key, e, c.want)
		}
	}
}

// Each height that just fits, or just doesn't: in the right side, or where the equations are solved. Of two ticks the pivot is 2, its square 4.
func TestExactTooLong(t *testing.T) {
	u, both := pair()[:1], pair()
	zero := z(0, 0)
	for key, c := range map[string]struct {
		ticks   []int
		heights []api.Gauss
		rotors  []api.Rotor
		want    api.Errno
	}{
		"a Num, as it stands":                 {[]int{0}, []api.Gauss{re(wide(65535))}, u, api.OK},
		"a Den, as it stands":                 {[]int{0}, []api.Gauss{im(under(65535))}, u, api.OK},
		"a right side's Num":                  {[]int{1}, []api.Gauss{re(wide(65533))}, u, api.OK},
		"a right side's Num too long":         {[]int{1}, []api.Gauss{re(wide(65534))}, u, api.ErrLong},
		"a right side's Den too long":         {[]int{1}, []api.Gauss{re(under(65534))}, u, api.ErrLong},
		"a right side's sum too long":         {[]int{0, 1}, []api.Gauss{re(under(41600)), re(odd(1300))}, u, api.ErrLong},
		"a quotient":                          {[]int{0, 1}, []api.Gauss{re(wide(65534)), zero}, u, api.OK},
		"a quotient's product too long":       {[]int{0, 1}, []api.Gauss{re(wide(65535)), zero}, u, api.ErrLong},
		"a quotient's Den":                    {[]int{0, 1}, []api.Gauss{re(under(65534)), zero}, u, api.OK},
		"a quotient's Den too long":           {[]int{0, 1}, []api.Gauss{re(under(65535)), zero}, u, api.ErrLong},
		"an Im's quotient too long":           {[]int{0, 1}, []api.Gauss{im(wide(65535)), zero}, u, api.ErrLong},
		"the second row's too long":           {[]int{0, 1}, []api.Gauss{re(wide(65533)), zero}, both, api.ErrLong},
		"the right side's, ahead of singular": {[]int{1}, []api.Gauss{re(wide(65534))}, both, api.ErrLong},
		"singular, all ahead of it fits":      {[]int{1}, []api.Gauss{re(wide(65000))}, both, api.ErrSingular},
		"on the way, ahead of singular":       {[]int{0, 1}, []api.Gauss{re(wide(65534)), zero}, append(both, o(3, 1)), api.ErrLong},
		"ErrLong, no rotor asks for it":       {[]int{1}, []api.Gauss{re(wide(65535))}, nil, api.OK},
	} {
		if e := exactAs(t, key, c.ticks, c.heights, c.rotors); e != c.want {
			t.Errorf("%s: %v, not %v", key, e, c.want)
		}
	}
}

func TestExactLongThrown(t *testing.T) {
	d := dice(2302)
	count := map[api.Errno]int{}
	for range 90 {
		ticks := d.ticks(4, 300)
		heights := d.numbers(len(ticks))
		for k := range heights {
			if d.below(2) == 0 {
				heights[k] = d.long()
			}
		}
		count[exactAs(t, "thrown, long", ticks, heights, append(d.rotors(1), o(7, 1)))]++
	}
	if count[api.OK] < 10 || count[api.ErrLong] < 15 || count[api.ErrSingular] < 5 {
		t.Errorf("answered %v", count)
	}
}

// The order of errors: the ticks', the rotors', how many heights, which height, then what is too long or singular.
func TestExactRefuses(t *testing.T) {
	exact := func(what string, ticks []int, heights []api.Gauss, rotors []api.Rotor, want api.Errno) {
		t.Helper()
		refused(t, "Exact", what, given{ticks: ticks, heights: heights, rotors: rotors}, want)
	}
	for key, w := range listsOfWrongTicks() {
		exact(key, w.l, whole(len(w.l)), pair(), w.want)
		exact(key+", all else wrong", w.l, make([]api.Gauss, 1), []api.Rotor{{}, {}}, w.want)
		exact(key+", more rotors than may be", w.l, nil, make([]api.Rotor, 9), w.want)
	}
	for key, w := range listsOfWrongRotors() {
		exact(key, []int{0, 1}, whole(2), w.l, w.want)
		exact(key+", one height more", []int{0, 1}, whole(3), w.l, w.want)
		exact(key+", empty heights", []int{0, 1}, make([]api.Gauss, 2), w.l, w.want)
		exact(key+", no ticks", nil, nil, w.l, w.want)
	}
	for ticks := range 4 {
		for heights := range 6 {
			if ticks != heights {
				key := strconv.Itoa(ticks) + " ticks, heights: " + strconv.Itoa(heights)
				exact(key, span(0, ticks), whole(heights), pair(), api.ErrArg)
				exact(key+", empty ones", span(0, ticks), make([]api.Gauss, heights), pair(), api.ErrArg)
				exact(key+", no rotors", span(0, ticks), whole(heights), nil, api.ErrArg)
			}
		}
	}
	exact("256 ticks, 512 heights", span(0, 256), whole(512), pair(), api.ErrArg)
	for key, w := range wrongNumbers() {
		for place := range 3 {
			alone, ahead := w.with(place, 3)
			what := key + " at " + strconv.Itoa(place)
			exact(what, span(0, 3), alone, pair(), w.want)
			exact(what+", others behind", span(0, 3), ahead, pair(), w.want)
			exact(what+", no rotors", span(0, 3), ahead, nil, w.want)
			exact(what+", singular", span(0, 3), ahead, eight(), w.want)
			exact(what+", behind what is too long", span(1, 5), append([]api.Gauss{re(wide(65535))}, ahead...), pair(), w.want)
		}
	}
}
