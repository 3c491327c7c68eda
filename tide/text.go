package tide

import (
	"strconv"
	"strings"

	"slackwater/api"
	"slackwater/gauss"
	"slackwater/rotor"
)

const (
	blank   = " " // stands between each two words of a text
	longest = 5   // bytes of a rotor's number in a text
)

// Print tells the text: name, Far, Near, the number's text, a blank between each two.
func Print(t api.Tide) (string, api.Errno) {
	if e := Check(t); e != api.OK {
		return "", e
	}
	n, e := gauss.Print(t.Number)
	if e != api.OK {
		return "", e
	}
	s := t.Name + blank + decimal(t.Rotor.Far) + blank + decimal(t.Rotor.Near) + blank + n
	if len(s) > api.MaxText {
		return "", api.ErrLong
	}
	return s, api.OK
}

// Parse reads a text just as Print tells it. That all words are as they should be is looked at ahead of what they say.
func Parse(s string) (api.Tide, api.Errno) {
	if len(s) > api.MaxText {
		return api.Tide{}, api.ErrLong
	}
	name, rest, _ := strings.Cut(s, blank)
	far, rest, _ := strings.Cut(rest, blank)
	near, rest, _ := strings.Cut(rest, blank)
	r, read := readRotor(far, near)
	n, e := gauss.Parse(rest)
	if !Name(name) || !read || e == api.ErrGauss {
		return api.Tide{}, api.ErrTide
	}
	if wrong := rotor.Check(r); wrong != api.OK {
		return api.Tide{}, wrong
	}
	if e != api.OK {
		return api.Tide{}, e
	}
	// A name in memory of its own doesn't hold on to a long text.
	return api.Tide{Name: strings.Clone(name), Rotor: r, Number: n}, api.OK
}

// readRotor reads two numbers, whether they are those of a rotor that may be or not.
func readRotor(far, near string) (api.Rotor, bool) {
	f, first := readNumber(far)
	n, second := readNumber(near)
	return api.Rotor{Far: f, Near: n}, first && second
}

// readNumber reads a number of at most 5 bytes.
func readNumber(s string) (int32, bool) {
	if len(s) > longest {
		return 0, false
	}
	n, err := strconv.Atoi(s)
	// Held against its own text, as Atoi reads signs and noughts ahead too.
	if err != nil || strconv.Itoa(n) != s {
		return 0, false
	}
	return int32(n), true
}

func decimal(n int32) string { return strconv.Itoa(int(n)) }
