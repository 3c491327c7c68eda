package clock

import (
	"strconv"
	"strings"

	"slackwater/api"
)

// Text tells a tick's text: Year, a -, Month, a -, Day, a blank, Hour.
func Text(t int) (string, api.Errno) {
	d, e := Date(t)
	if e != api.OK {
		return "", e
	}
	return text(d), api.OK
}

func text(d api.Date) string {
	return strconv.Itoa(d.Year) + "-" + strconv.Itoa(d.Month) + "-" + strconv.Itoa(d.Day) + " " + strconv.Itoa(d.Hour)
}

// Parse reads just what Text tells.
func Parse(s string) (int, api.Errno) {
	year, rest, _ := strings.Cut(s, "-")
	month, rest, _ := strings.Cut(rest, "-")
	day, hour, _ := strings.Cut(rest, " ")
	d := api.Date{Year: number(year), Month: number(month), Day: number(day), Hour: number(hour)}
	t, e := From(d)
	// Held against its own text, as signs and noughts ahead are read as numbers too.
	if e != api.OK || text(d) != s {
		return 0, api.ErrTime
	}
	return t, api.OK
}

// number reads a whole number; what is none's is -1, which no date has.
func number(s string) int {
	n, err := strconv.Atoi(s)
	if err != nil {
		return -1
	}
	return n
}
