package digest

import "amnesia/api"

const (
	digits = "0123456789abcdef"
	length = 64 // of a hash's text
)

// Print: a hash's text, 64 hexadecimal digits.
func Print(h api.Hash) string {
	text := make([]byte, 0, length)
	for _, b := range h {
		text = append(text, digits[b>>4], digits[b&15])
	}
	return string(text)
}

// Parse: the hash of a text. ErrHex: the text is none's; beside it the place of the first sign that can't stand there, or that is missing.
func Parse(text string) (api.Hash, api.Errno, int) {
	var h api.Hash
	there := min(len(text), length)
	for i := range there {
		value, is := valueOf(text[i])
		if !is {
			return api.Hash{}, api.ErrHex, i
		}
		h[i/2] = h[i/2]<<4 | value
	}
	if len(text) != length {
		return api.Hash{}, api.ErrHex, there
	}
	return h, api.OK, 0
}

// valueOf: what a digit stands for. A capital letter is none, so that a hash has one text alone.
func valueOf(sign byte) (byte, bool) {
	switch {
	case sign >= '0' && sign <= '9':
		return sign - '0', true
	case sign >= 'a' && sign <= 'f':
		return sign - 'a' + 10, true
	}
	return 0, false
}
