package runes

import (
	"strings"

	"idiom/api"
)

// placeholderSize is that of an opening brace, a digit and a closing brace.
const placeholderSize = 3

// Fill returns pattern with the items in the place of {0} to {9}.
func Fill(pattern string, items []string) (string, api.Errno) {
	if len(pattern) > api.MaxText {
		return "", api.ErrLong
	}
	var out strings.Builder
	for at := 0; at < len(pattern); {
		piece, size := pattern[at:at+1], 1
		if pattern[at] == '{' {
			item, ok := itemOf(pattern[at:], items)
			if !ok {
				return "", api.ErrFill
			}
			piece, size = item, placeholderSize
		}
		if len(piece) > api.MaxOut-out.Len() {
			return "", api.ErrLong
		}
		out.WriteString(piece)
		at += size
	}
	return out.String(), api.OK
}

// itemOf finds the item of the placeholder with which s begins; false if there is no placeholder, or no item of that index.
func itemOf(s string, items []string) (string, bool) {
	if len(s) < placeholderSize || !isDigit(s[1]) || s[2] != '}' {
		return "", false
	}
	index := int(s[1] - '0')
	if index >= len(items) {
		return "", false
	}
	return items[index], true
}
