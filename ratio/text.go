package ratio

import (
	"strings"

	"slackwater/api"
	"slackwater/nat"
	"slackwater/whole"
)

const (
	minus = "-" // stands ahead of a fraction below 0
	bar   = "/" // stands between numerator and denominator
)

// Print tells the text: numerator and denominator, a / between them; a whole number's, if the denominator is 1.
func Print(r api.Ratio) (string, api.Errno) {
	if e := Check(r); e != api.OK {
		return "", e
	}
	num, e := whole.Print(api.Whole{Neg: r.Neg, Words: r.Num})
	if isOne(r.Den) {
		return num, e
	}
	den, e := nat.Print(r.Den)
	return num + bar + den, e
}

// Parse reads a fraction just as Print tells it. A text that is not in lowest terms is none's, however long.
func Parse(s string) (api.Ratio, api.Errno) {
	if len(s) > api.MaxText {
		return api.Ratio{}, api.ErrLong
	}
	r := read(s)
	if !inOneForm(r) {
		return api.Ratio{}, api.ErrText
	}
	return told(r.Neg, r.Num, r.Den)
}

// read takes a text apart. What it tells may be in no one form, and surely is not where the text can't be taken apart, or its denominator is written out though it is 1.
func read(s string) api.Ratio {
	size, neg := strings.CutPrefix(s, minus)
	above, below, parted := strings.Cut(size, bar)
	num, e := nat.Parse(above)
	if e != api.OK {
		return api.Ratio{}
	}
	if !parted {
		return api.Ratio{Neg: neg, Num: num, Den: nat.Of(1)}
	}
	den, e := nat.Parse(below)
	if e != api.OK || isOne(den) {
		return api.Ratio{}
	}
	return api.Ratio{Neg: neg, Num: num, Den: den}
}
