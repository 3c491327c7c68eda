package stream

import (
	"slackwater/api"
	"slackwater/port"
	"slackwater/ratio"
)

// Slacks tells the runs of ticks from a on, below b, at which a stream is slower than ahead and behind.
func Slacks(p api.Port, a, b int) ([]api.Slack, api.Errno) {
	if f := port.Check(p); f.Err != api.OK {
		return nil, f.Err
	}
	if a < 0 || b > api.MaxPower+1 || a > b {
		return nil, api.ErrArg
	}
	squares, e := squaresOf(p, a, b)
	if e != api.OK {
		return nil, e
	}
	return slacksOf(squares, a), api.OK
}

// squaresOf makes the squares of a span; the first error ends it.
func squaresOf(p api.Port, a, b int) ([]api.Ratio, api.Errno) {
	var squares []api.Ratio
	for t := a; t < b; t++ {
		s, e := Square(p, t)
		if e != api.OK {
			return nil, e
		}
		squares = append(squares, s)
	}
	return squares, api.OK
}

// slacksOf finds the slacks of squares that stand at the ticks from a on. Each takes a square of its own along, so that no two share memory.
func slacksOf(squares []api.Ratio, a int) []api.Slack {
	var slacks []api.Slack
	// The run that next may go on with begins at first; it fell, if a greater square stands directly ahead of it.
	first, fell := 0, false
	for next := 1; next < len(squares); next++ {
		// Compare refuses none that Square tells.
		sign, _ := ratio.Compare(squares[next], squares[first])
		switch sign {
		case -1:
			first, fell = next, true
		case 1:
			if fell {
				slacks = append(slacks, api.Slack{Tick: a + first, Last: a + next - 1, Square: squares[first]})
			}
			first, fell = next, false
		}
	}
	return slacks
}
