package whole

import (
	"strings"

	"slackwater/api"
	"slackwater/nat"
)

// minus stands ahead of the digits of a number below 0.
const minus = "-"

// Print tells the decimal digits, a - ahead of them below 0.
func Print(a api.Whole) (string, api.Errno) {
	if e := Check(a); e != api.OK {
		return "", e
	}
	digits, e := nat.Print(a.Words)
	if a.Neg {
		digits = minus + digits
	}
	return digits, e
}

// Parse reads a number just as Print tells it.
func Parse(s string) (api.Whole, api.Errno) {
	if len(s) > api.MaxText {
		return api.Whole{}, api.ErrLong
	}
	digits, neg := strings.CutPrefix(s, minus)
	size, e := nat.Parse(digits)
	if e == api.ErrNat || neg && e == api.OK && len(size) == 0 {
		e = api.ErrWhole
	}
	return told(neg, size, e)
}
