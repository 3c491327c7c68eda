package doodson

import "slackwater/api"

const (
	nought = '5' // the digit of 0, so that numbers below 0 have one, too
	dot    = 3   // the place of the dot
	size   = 7   // bytes of a text
)

// Print tells the numbers' text: three digits, a dot, three digits.
func Print(n api.Doodson) (string, api.Errno) {
	if e := Check(n); e != api.OK {
		return "", e
	}
	text := make([]byte, 0, size)
	for k, x := range n {
		if k == dot {
			text = append(text, '.')
		}
		text = append(text, byte(nought+x))
	}
	return string(text), api.OK
}

// Parse reads just what Print tells.
func Parse(s string) (api.Doodson, api.Errno) {
	if len(s) != size || s[dot] != '.' {
		return api.Doodson{}, api.ErrDoodson
	}
	var n api.Doodson
	digits := s[:dot] + s[dot+1:]
	for k := range n {
		d := digits[k]
		if d < nought-most || d > nought+most {
			return api.Doodson{}, api.ErrDoodson
		}
		n[k] = int8(d) - nought
	}
	return n, api.OK
}
