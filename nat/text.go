package nat

import (
	"strconv"
	"strings"

	"slackwater/api"
)

// A piece is as many decimal digits as surely go into a word.
const (
	pieceDigits = 9
	pieceWhole  = 1000000000
)

// Print tells the decimal digits, without noughts ahead.
func Print(a []uint32) (string, api.Errno) {
	if e := Check(a); e != api.OK {
		return "", e
	}
	if len(a) == 0 {
		return "0", api.OK
	}
	pieces := split(a)
	var text strings.Builder
	for i := len(pieces) - 1; i >= 0; i-- {
		digits := strconv.FormatUint(uint64(pieces[i]), 10)
		if i < len(pieces)-1 {
			text.WriteString(strings.Repeat("0", pieceDigits-len(digits)))
		}
		text.WriteString(digits)
	}
	return text.String(), api.OK
}

// split tells a number's pieces, the lowest first.
func split(a []uint32) []uint32 {
	left := Trim(a)
	var pieces []uint32
	for len(left) > 0 {
		pieces = append(pieces, divideByWord(left, pieceWhole))
		left = left[:size(left)]
	}
	return pieces
}

// Parse reads decimal digits, just as Print tells them.
func Parse(s string) ([]uint32, api.Errno) {
	if len(s) > api.MaxText {
		return nil, api.ErrLong
	}
	if !isNumber(s) {
		return nil, api.ErrNat
	}
	return told(join(s))
}

// isNumber tells whether a text is digits alone, without noughts ahead.
func isNumber(s string) bool {
	if s == "" || s[0] == '0' && len(s) > 1 {
		return false
	}
	for i := range len(s) {
		if s[i] < '0' || s[i] > '9' {
			return false
		}
	}
	return true
}

// join tells the number of digits, piece by piece from the highest one on.
func join(s string) []uint32 {
	var a []uint32
	for s != "" {
		n := (len(s)-1)%pieceDigits + 1
		a = timesPiece(a, wordOf(s[:n]))
		s = s[n:]
	}
	return a
}

// timesPiece makes a its product with a whole piece and w together, a word longer where that is needed.
func timesPiece(a []uint32, w uint32) []uint32 {
	carry := uint64(w)
	for i, x := range a {
		carry += uint64(x) * pieceWhole
		a[i] = uint32(carry)
		carry >>= wordBits
	}
	if carry != 0 {
		a = append(a, uint32(carry))
	}
	return a
}

// wordOf tells the number of at most nine digits.
func wordOf(digits string) uint32 {
	w := uint32(0)
	for i := range len(digits) {
		w = w*10 + uint32(digits[i]-'0')
	}
	return w
}
