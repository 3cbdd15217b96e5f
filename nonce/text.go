package nonce

import (
	"math"
	"strconv"

	"amnesia/api"
)

// Print: a draw's text.
func Print(d api.Draw) string {
	return strconv.FormatUint(d.Hi, 10) + "." + strconv.FormatUint(d.Lo, 10)
}

// Parse: the draw of a text. ErrDraw: the text is none's; beside it how many of its bytes are a beginning of some draw's text.
func Parse(text string) (api.Draw, api.Errno, int) {
	hi, point := readNumber(text, 0)
	if point == 0 || point == len(text) || text[point] != '.' {
		return api.Draw{}, api.ErrDraw, point
	}
	lo, end := readNumber(text, point+1)
	if end == point+1 || end < len(text) {
		return api.Draw{}, api.ErrDraw, end
	}
	return api.Draw{Hi: hi, Lo: lo}, api.OK, 0
}

// readNumber: the longest number that stands in text at from, and the place behind it. No digit follows a 0 that is the first one, nor goes beyond 64 bits, so that the place is the first byte that can't belong to a number.
func readNumber(text string, from int) (uint64, int) {
	var v uint64
	for at := from; at < len(text); at++ {
		if text[at] < '0' || text[at] > '9' || at > from && v == 0 {
			return v, at
		}
		digit := uint64(text[at] - '0')
		if v > (math.MaxUint64-digit)/10 {
			return v, at
		}
		v = v*10 + digit
	}
	return v, len(text)
}
