// Package runes is layer 1 (doc/01-runes.md): it reads strings rune by rune, classifies white space, syntax and argument names, escapes bytes as printable ASCII and back, and fills placeholders.
package runes

import (
	"strings"
	"unicode/utf8"

	"idiom/api"
)

// greatestNumber is the greatest argument number, written out: numbers of as many digits compare as their texts do.
const greatestNumber = "2147483647"

// replacement is U+FFFD as it is written in a text.
const replacement = "\uFFFD"

// span is the runes from lo to hi.
type span struct {
	lo, hi rune
}

// syntaxSpans is the syntax characters, rising.
var syntaxSpans = [...]span{
	{0x21, 0x2F}, {0x3A, 0x40}, {0x5B, 0x5E}, {0x60, 0x60}, {0x7B, 0x7E},
	{0xA1, 0xA7}, {0xA9, 0xA9}, {0xAB, 0xAC}, {0xAE, 0xAE}, {0xB0, 0xB1}, {0xB6, 0xB6}, {0xBB, 0xBB}, {0xBF, 0xBF}, {0xD7, 0xD7}, {0xF7, 0xF7},
	{0x2010, 0x2027}, {0x2030, 0x203E}, {0x2041, 0x2053}, {0x2055, 0x205E}, {0x2190, 0x2BFF}, {0x2E00, 0x2E7F},
	{0x3001, 0x3003}, {0x3008, 0x3020}, {0x3030, 0x3030}, {0xFD3E, 0xFD3F}, {0xFE45, 0xFE46},
}

// stray tells whether r, which a range over s read at a place, is a byte that belongs to no rune. Such a byte is read as U+FFFD, so that only s itself tells it from a U+FFFD that is written there.
func stray(s string, at int, r rune) bool {
	return r == utf8.RuneError && !strings.HasPrefix(s[at:], replacement)
}

// Valid reports whether s has no stray byte.
func Valid(s string) bool {
	for at, r := range s {
		if stray(s, at, r) {
			return false
		}
	}
	return true
}

// Repair returns s with U+FFFD in the place of each stray byte.
func Repair(s string) string {
	var out strings.Builder
	for _, r := range s { // a stray byte is read as U+FFFD already
		out.WriteRune(r)
	}
	return out.String()
}

// Space reports whether r is white space.
func Space(r rune) bool {
	switch r {
	case 0x20, 0x85, 0x200E, 0x200F, 0x2028, 0x2029:
		return true
	}
	return 0x09 <= r && r <= 0x0D
}

// Syntax reports whether r is a syntax character.
func Syntax(r rune) bool {
	for _, x := range syntaxSpans {
		if x.lo <= r && r <= x.hi {
			return true
		}
	}
	return false
}

// Ident tells what s is as the name of an argument.
func Ident(s string) int {
	switch {
	case isNumber(s):
		return api.IdentNumber
	case isName(s):
		return api.IdentName
	}
	return api.IdentNone
}

func isNumber(s string) bool {
	if s == "" || len(s) > len(greatestNumber) {
		return false
	}
	for at := range len(s) {
		if !isDigit(s[at]) {
			return false
		}
	}
	if s[0] == '0' {
		return s == "0"
	}
	return len(s) < len(greatestNumber) || s <= greatestNumber
}

func isName(s string) bool {
	if s == "" || len(s) > api.MaxName || isDigit(s[0]) {
		return false
	}
	for at, r := range s {
		if stray(s, at, r) || Space(r) || Syntax(r) {
			return false
		}
	}
	return true
}

func isDigit(b byte) bool {
	return '0' <= b && b <= '9'
}

// Trim returns s without the white space at its ends.
func Trim(s string) string {
	begin, end := len(s), 0
	for at, r := range s {
		if Space(r) {
			continue
		}
		begin = min(begin, at)
		end = at + sizeAt(s, at, r)
	}
	if end == 0 {
		return ""
	}
	return strings.Clone(s[begin:end])
}

// sizeAt is of how many bytes of s the rune r was read at a place.
func sizeAt(s string, at int, r rune) int {
	if stray(s, at, r) {
		return 1
	}
	return utf8.RuneLen(r)
}
