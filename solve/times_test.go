package solve_test

import (
	"testing"

	"slackwater/api"
	"slackwater/solve"
)

// P22.4

func TestTimes(t *testing.T) {
	for _, c := range []struct{ m, x, want string }{
		{"1, 1; 1, -1", "2, 1", "3, 1"},
		{"1, 2, 3", "4, 5, 6", "32"},
		{"1; 2; 3", "5", "5, 10, 15"},
		{"0 1, 1", "0 1, 3/2", "1/2"},
		{"1 2, 3 -1; 0, 0 1", "3 -1, 1/2 1/3", "41/6 11/2, -1/3 1/2"},
		{"0, 0; 0, 0", "1, 2", "0, 0"},
		{"1, 2; 3, 4; 5, 6", "0, 0", "0, 0, 0"},
		{"1/3, -1/3", "1, 1", "0"},
		{"", "", ""},
	} {
		if x := mustTimes(t, matrix(t, c.m), list(t, c.x)); !same(x, list(t, c.want)) {
			t.Errorf("Times of %s and %s: %s", c.m, c.x, text([][]api.Gauss{x}))
		}
	}
	for _, m := range [][][]api.Gauss{nil, {}} {
		if x, e := solve.Times(m, []api.Gauss{}); len(x) > 0 || e != api.OK {
			t.Errorf("Times without rows: %d numbers, %v", len(x), e)
		}
	}
}

func TestTimesThrown(t *testing.T) {
	d := dice(225)
	for range 300 {
		rows, columns := d.below(9), d.below(9)
		if rows == 0 {
			columns = 0
		}
		as(t, "thrown", d.smallRows(rows, columns), d.smalls(columns), "Times")
		var m [][]api.Gauss
		for range rows {
			m = append(m, d.numbers(columns))
		}
		as(t, "some words", m, d.numbers(columns), "Times")
	}
}

// Each product and each sum that just fits, or just doesn't.
func TestTimesTooLong(t *testing.T) {
	top, low, half := wide(65535), less(65535), wide(32768)
	for key, c := range map[string]struct {
		row, x []api.Gauss
		long   bool
	}{
		"as it stands":             {[]api.Gauss{re(top)}, []api.Gauss{z(1, 0)}, false},
		"a product":                {[]api.Gauss{re(half)}, []api.Gauss{re(wide(32767))}, false},
		"a product too long":       {[]api.Gauss{re(half)}, []api.Gauss{re(half)}, true},
		"an Im's product":          {[]api.Gauss{im(half)}, []api.Gauss{re(wide(32767))}, false},
		"an Im's product too long": {[]api.Gauss{re(half)}, []api.Gauss{im(half)}, true},
		"of two Im too long":       {[]api.Gauss{im(half)}, []api.Gauss{im(half)}, true},
		"below too long":           {[]api.Gauss{re(under(32768))}, []api.Gauss{re(under(32768))}, true},
		"below just not":           {[]api.Gauss{re(under(32767))}, []api.Gauss{re(under(32768))}, false},
		"both parts of a product":  {[]api.Gauss{g(top, top)}, []api.Gauss{z(1, -1)}, true},
		"one part of a product":    {[]api.Gauss{g(wide(65534), wide(65534))}, []api.Gauss{z(1, -1)}, false},
		"a sum too long":           {[]api.Gauss{re(top), re(top)}, []api.Gauss{z(1, 0), z(1, 0)}, true},
		"a sum":                    {[]api.Gauss{re(top), re(low)}, []api.Gauss{z(1, 0), z(1, 0)}, false},
		"an Im's sum too long":     {[]api.Gauss{im(top), im(top)}, []api.Gauss{z(1, 0), z(1, 0)}, true},
		"from the left too long":   {[]api.Gauss{re(top), re(top), re(low)}, []api.Gauss{z(1, 0), z(1, 0), z(1, 0)}, true},
		"from the left, not":       {[]api.Gauss{re(top), re(low), re(top)}, []api.Gauss{z(1, 0), z(1, 0), z(1, 0)}, false},
		"not from the right":       {[]api.Gauss{re(low), re(top), re(top)}, []api.Gauss{z(1, 0), z(1, 0), z(1, 0)}, false},
		"unlike ones below":        {[]api.Gauss{re(under(50000)), re(odd(1000))}, []api.Gauss{z(1, 0), z(1, 0)}, true},
		"unlike ones in two parts": {[]api.Gauss{re(under(50000)), im(odd(1000))}, []api.Gauss{z(1, 0), z(1, 0)}, false},
		"times 0":                  {[]api.Gauss{g(top, low)}, []api.Gauss{z(0, 0)}, false},
	} {
		if e := as(t, key, [][]api.Gauss{c.row}, c.x, "Times")["Times"]; (e == api.ErrLong) != c.long {
			t.Errorf("%s: %v", key, e)
		}
		short := make([]api.Gauss, len(c.row))
		for k := range short {
			short[k] = z(0, 0)
		}
		for place, m := range [][][]api.Gauss{{c.row, short}, {short, c.row}, {short, short, c.row}} {
			if e := as(t, key+", among others", m, c.x, "Times")["Times"]; (e == api.ErrLong) != c.long {
				t.Errorf("%s, among others, %d: %v", key, place, e)
			}
		}
	}
}
