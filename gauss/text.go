package gauss

import (
	"strings"

	"slackwater/api"
	"slackwater/ratio"
)

// blank stands between the texts of the parts.
const blank = " "

// Print tells the text: the real part's, a blank, the imaginary part's.
func Print(a api.Gauss) (string, api.Errno) {
	re, e := ratio.Print(a.Re)
	if e != api.OK {
		return "", e
	}
	im, e := ratio.Print(a.Im)
	if e != api.OK {
		return "", e
	}
	if len(re)+len(blank)+len(im) > api.MaxText {
		return "", api.ErrLong
	}
	return re + blank + im, api.OK
}

// Parse reads a text just as Print tells it.
func Parse(s string) (api.Gauss, api.Errno) {
	if len(s) > api.MaxText {
		return api.Gauss{}, api.ErrLong
	}
	// Without a blank the second piece is empty, and no fraction's text.
	first, second, _ := strings.Cut(s, blank)
	re, e := ratio.Parse(first)
	im, f := ratio.Parse(second)
	switch {
	case e == api.ErrText || f == api.ErrText:
		return api.Gauss{}, api.ErrGauss
	case e != api.OK || f != api.OK:
		return api.Gauss{}, api.ErrLong
	}
	return api.Gauss{Re: re, Im: im}, api.OK
}
