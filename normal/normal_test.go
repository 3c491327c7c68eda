package normal_test

import (
	"testing"

	"slackwater/api"
	"slackwater/normal"
)

// P21.1

func TestTicks(t *testing.T) {
	for i, l := range [][]int{nil, {}, {0}, {1}, {1023}, {1024}, {0, 1}, {0, 1024}, {1023, 1024}, {3, 5, 8, 1000}, span(0, 255), span(0, 256), span(1, 257), span(769, 1025)} {
		if f := normal.Ticks(l); f != (api.Fault{}) {
			t.Errorf("Ticks %d: %v at %d", i, f.Err, f.At)
		}
	}
	for key, w := range listsOfWrongTicks() {
		if f := normal.Ticks(w.l); f != w.want {
			t.Errorf("Ticks, %s: %v at %d, not %v at %d", key, f.Err, f.At, w.want.Err, w.want.At)
		}
	}
}

// faultOf is that of ticks, looked for place by place.
func faultOf(ticks []int) api.Fault {
	for i, x := range ticks {
		within := 0 <= x && x <= 1024
		above := i == 0 || x > ticks[i-1]
		if !within || !above {
			return at(api.ErrArg, i)
		}
	}
	return api.Fault{}
}

func TestThrownTicks(t *testing.T) {
	d := dice(211)
	for range 20000 {
		var l []int
		last := -2
		for range d.below(9) {
			last += d.below(300)
			if d.below(9) == 0 {
				last -= d.below(600)
			}
			l = append(l, last)
		}
		if f, want := normal.Ticks(l), faultOf(l); f != want {
			t.Fatalf("Ticks %v: %v at %d, not %v at %d", l, f.Err, f.At, want.Err, want.At)
		}
	}
}

func TestRotors(t *testing.T) {
	for i, l := range [][]api.Rotor{nil, {}, {o(2, 1)}, pair(), {o(2, 1), o(1, 2)}, {o(1, 2), o(1, -2), o(2, 1), o(2, -1)}, {o(1000, 999), o(999, 1000)}, eight(), widest(8), eight()[:7]} {
		if f := normal.Rotors(l); f != (api.Fault{}) {
			t.Errorf("Rotors %d: %v at %d", i, f.Err, f.At)
		}
	}
	for key, w := range listsOfWrongRotors() {
		if f := normal.Rotors(w.l); f != w.want {
			t.Errorf("Rotors, %s: %v at %d, not %v at %d", key, f.Err, f.At, w.want.Err, w.want.At)
		}
	}
}
