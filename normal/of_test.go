package normal_test

import (
	"testing"

	"slackwater/api"
	"slackwater/normal"
)

// P21.2

func TestOf(t *testing.T) {
	for _, c := range []struct {
		ticks  []int
		rotors []api.Rotor
		want   [][]string
	}{
		{[]int{0, 1}, pair(), [][]string{{"2 0", "18/25 -24/25"}, {"18/25 24/25", "2 0"}}},
		{[]int{0}, pair(), [][]string{{"1 0", "1 0"}, {"1 0", "1 0"}}},
		{[]int{1}, pair(), [][]string{{"1 0", "-7/25 -24/25"}, {"-7/25 24/25", "1 0"}}},
		{nil, pair(), [][]string{{"0 0", "0 0"}, {"0 0", "0 0"}}},
		{[]int{0, 1}, pair()[1:], [][]string{{"2 0"}}},
		{[]int{0, 1}, nil, nil},
		{nil, nil, nil},
		{[]int{0, 1}, []api.Rotor{o(2, 1), o(3, 1)}, [][]string{{"2 0", "49/25 -7/25"}, {"49/25 7/25", "2 0"}}},
		{[]int{0, 1, 2}, []api.Rotor{o(1, 2), o(2, 1)}, [][]string{{"3 0", "273/625 -936/625"}, {"273/625 936/625", "3 0"}}},
	} {
		var want [][]api.Gauss
		for _, row := range c.want {
			want = append(want, read(t, row...))
		}
		if got := mustRows(t)(normal.Of(c.ticks, c.rotors)); !sameRows(got, want) {
			t.Errorf("Of %v and %v: not as it should be", c.ticks, c.rotors)
		}
	}
}

// ofAs holds what is told against the definition.
func ofAs(t *testing.T, ticks []int, rotors []api.Rotor) {
	t.Helper()
	want, long := rowsOf(ticks, rotors)
	if got := mustRows(t)(normal.Of(ticks, rotors)); long || !sameRows(got, want) {
		t.Errorf("Of %v and %v: not as it should be", ticks, rotors)
	}
}

func TestOfOverTicks(t *testing.T) {
	for _, ticks := range [][]int{nil, {0}, {1}, {5}, {0, 1}, {0, 7}, {3, 4, 9}, span(0, 20), span(7, 16), {0, 100, 101}, {99, 130}} {
		for _, rotors := range [][]api.Rotor{nil, pair(), eight()[:3], eight()[5:], eight()} {
			ofAs(t, ticks, rotors)
		}
	}
	ofAs(t, []int{1024}, eight()[4:])
	ofAs(t, []int{0, 1023, 1024}, []api.Rotor{o(3, 1), o(1000, 999)})
	ofAs(t, span(0, 256), pair())
	ofAs(t, span(3, 203), []api.Rotor{o(3, -1), o(1, 2)})
}

func TestOfThrown(t *testing.T) {
	d := dice(212)
	for range 100 {
		ofAs(t, d.ticks(9, 60), d.rotors(8))
	}
	for range 6 {
		ofAs(t, d.ticks(5, 1024), d.rotors(3))
	}
}

// The longest equations are none too long: 256 ticks up to the last one, by rotors below whose numbers the greatest stand.
func TestOfIsNeverTooLong(t *testing.T) {
	rotors := []api.Rotor{o(1000, 999), o(1000, -999), o(999, 998)}
	rows := mustRows(t)(normal.Of(span(769, 1025), rotors))
	for j, row := range rows {
		for k, a := range row {
			words := max(len(a.Re.Den), len(a.Im.Den))
			if j == k && !sameGauss(a, z(256, 0)) || j != k && words < 1300 {
				t.Errorf("at %d, %d: %d words", j, k, words)
			}
		}
	}
	want, long := rowsOf([]int{1024}, rotors)
	if got := mustRows(t)(normal.Of([]int{1024}, rotors)); long || !sameRows(got, want) {
		t.Error("Of 1,024: not as it should be")
	}
}

func TestOfRefuses(t *testing.T) {
	refused := func(what string, ticks []int, rotors []api.Rotor, want api.Fault) {
		t.Helper()
		if m, f := normal.Of(ticks, rotors); f != want || len(m) > 0 {
			t.Errorf("Of, %s: %v at %d, %d rows, not %v at %d alone", what, f.Err, f.At, len(m), want.Err, want.At)
		}
	}
	for key, w := range listsOfWrongTicks() {
		refused(key, w.l, pair(), w.want)
		refused(key+", no rotors", w.l, nil, w.want)
		refused(key+", one rotor twice", w.l, []api.Rotor{o(2, 1), o(2, 1)}, w.want)
		refused(key+", nine rotors", w.l, make([]api.Rotor, 9), w.want)
	}
	for key, w := range listsOfWrongRotors() {
		refused(key, []int{0, 1}, w.l, w.want)
		refused(key+", no ticks", nil, w.l, w.want)
	}
}
