package stream_test

import (
	"testing"

	"slackwater/api"
	"slackwater/stream"
)

// short are ports that are told fast.
func short(t *testing.T) []api.Port {
	t.Helper()
	return []api.Port{example(), h("None", q(3, 2)), h("Nought", q(0, 1), c("a", 3, 1, z(0, 0))), h("One", q(-1, 1), m2()), h("Full", q(1, 24), many(24)...), twins(t, 3, false), still(t, 2, api.Rotor{Far: 2, Near: 1}, api.Rotor{Far: 2, Near: -1}, api.Rotor{Far: 3, Near: 1})}
}

// Rule 4: what is told is new memory.
func TestAnswersAreNewMemory(t *testing.T) {
	for _, p := range short(t) {
		was := marked(p)
		for at := range 4 {
			x, y := must(t)(stream.Square(p, at)), must(t)(stream.Square(p, at))
			want := markedRatio(y)
			if !scribbled(x) || !sameRatio(y, want) {
				t.Errorf("Square at %d of %s: memory that is not its own", at, p.Name)
			}
		}
		first, e := stream.Slacks(p, 0, 20)
		mustOf(t, e, first)
		second, e := stream.Slacks(p, 0, 20)
		mustOf(t, e, second)
		var squares []api.Ratio
		for _, x := range first[:cap(first)] {
			squares = append(squares, x.Square)
		}
		if !scribbled(squares...) || !sameSlacks(second, slacksOf(p, 0, 20)) {
			t.Errorf("Slacks of %s: memory that is not its own", p.Name)
		}
		for i, x := range p.Tides {
			if !sameTide(x, was.Tides[i]) {
				t.Errorf("%s is not as it was", p.Name)
			}
		}
	}
}

// Rule 4: what is handed in stays as it is, its spare room too; so it does where a call is refused.
func TestArgumentsStayAsTheyAre(t *testing.T) {
	unit := long()
	ports := append(short(t), lone(unit.Re, unit.Im), lone(power(1024), power(40000)), h("1", q(1, 2), m2()), h("Twice", q(1, 2), m2(), m2()))
	for _, p := range ports {
		used := marked(p)
		for _, at := range []int{0, 1, 2, -1} {
			stream.Rate(used, at)
			stream.Speed(used, at)
			stream.Square(used, at)
		}
		stream.Slacks(used, 0, 6)
		stream.Slacks(used, 6, 0)
		stream.Reach(used)
		for _, x := range used.Tides {
			for _, y := range used.Tides {
				stream.Ellipse(x, y)
			}
		}
		if !untouched(used, p) {
			t.Errorf("%s is not as it was", p.Name)
		}
	}
}

// One memory may stand in several places of what is handed in.
func TestOneMemoryInSeveralPlaces(t *testing.T) {
	f := q(-7, 25)
	shared := h("Shared", f, c("a", 2, 1, g(f, f)), c("b", 3, 1, g(f, f)), c("d", 2, -1, g(f, f)))
	apart := marked(shared)
	for at := range 5 {
		if !sameRatio(must(t)(stream.Square(shared, at)), must(t)(stream.Square(apart, at))) {
			t.Errorf("Square at %d", at)
		}
	}
	slacks(t, shared, 0, 20, slacksOf(apart, 0, 20))
	x, e := stream.Ellipse(shared.Tides[0], shared.Tides[2])
	if y, _ := stream.Ellipse(apart.Tides[0], apart.Tides[2]); e != api.OK || x != y || x.Lesser != 0 {
		t.Errorf("Ellipse: %v, %v", e, x)
	}
}
