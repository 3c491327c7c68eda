package turn

import (
	"strconv"
	"strings"

	"slackwater/api"
)

// Print tells a turn's text: Part, a /, Whole.
func Print(t api.Turn) (string, api.Errno) {
	if e := Check(t); e != api.OK {
		return "", e
	}
	return text(t), api.OK
}

func text(t api.Turn) string {
	return strconv.FormatInt(t.Part, 10) + "/" + strconv.FormatInt(t.Whole, 10)
}

// Parse reads just what Print tells.
func Parse(s string) (api.Turn, api.Errno) {
	part, whole, _ := strings.Cut(s, "/")
	t := api.Turn{Part: number(part), Whole: number(whole)}
	// Held against its own text, as signs and noughts ahead are read as numbers too.
	if Check(t) != api.OK || text(t) != s {
		return api.Turn{}, api.ErrTurn
	}
	return t, api.OK
}

// number reads a whole number; what is none's is -1, which no turn has.
func number(s string) int64 {
	n, err := strconv.ParseInt(s, 10, 64)
	if err != nil {
		return -1
	}
	return n
}
