package runes

import (
	"strings"
	"unicode/utf8"

	"idiom/api"
)

const hexDigits = "0123456789abcdef"

// The numbers of hexadecimal digits after \x, \u and \U.
const (
	byteDigits  = 2
	shortDigits = 4
	longDigits  = 6
)

// Escape represents any bytes by the characters U+0020 to U+007E.
func Escape(s string) string {
	var out strings.Builder
	for at, r := range s {
		switch {
		case stray(s, at, r):
			writeHex(&out, 'x', rune(s[at]), byteDigits)
		case r == '\\':
			out.WriteString(`\\`)
		case r == '\n':
			out.WriteString(`\n`)
		case r == '\r':
			out.WriteString(`\r`)
		case r == '\t':
			out.WriteString(`\t`)
		case 0x20 <= r && r <= 0x7E:
			out.WriteRune(r)
		case r <= 0xFFFF:
			writeHex(&out, 'u', r, shortDigits)
		default:
			writeHex(&out, 'U', r, longDigits)
		}
	}
	return out.String()
}

func writeHex(out *strings.Builder, letter byte, n rune, digits int) {
	out.WriteByte('\\')
	out.WriteByte(letter)
	for place := digits - 1; place >= 0; place-- {
		out.WriteByte(hexDigits[n>>(4*place)&0xF])
	}
}

// Unescape returns the bytes that s represents; or the offset of the first backslash that begins no escape sequence.
func Unescape(s string) (string, int, api.Errno) {
	if len(s) > api.MaxOut {
		return "", 0, api.ErrLong
	}
	var out strings.Builder
	for at := 0; at < len(s); {
		if s[at] != '\\' {
			out.WriteByte(s[at])
			at++
			continue
		}
		meant, size := readSequence(s[at+1:])
		if size == 0 {
			return "", at, api.ErrEscape
		}
		out.WriteString(meant)
		at += 1 + size
	}
	return out.String(), 0, api.OK
}

// readSequence reads what stands behind a backslash: the bytes that it means, and its size (0 if it is no escape sequence).
func readSequence(s string) (string, int) {
	if s == "" {
		return "", 0
	}
	switch s[0] {
	case '\\':
		return "\\", 1
	case 'n':
		return "\n", 1
	case 'r':
		return "\r", 1
	case 't':
		return "\t", 1
	case 'x':
		return readByte(s[1:])
	case 'u':
		return readRune(s[1:], shortDigits)
	case 'U':
		return readRune(s[1:], longDigits)
	}
	return "", 0
}

// readByte reads the digits behind \x, and answers as readSequence does.
func readByte(s string) (string, int) {
	n, ok := readHex(s, byteDigits)
	if !ok {
		return "", 0
	}
	return string([]byte{byte(n)}), 1 + byteDigits
}

// readRune reads the digits behind \u or \U, and answers as readSequence does.
func readRune(s string, digits int) (string, int) {
	n, ok := readHex(s, digits)
	if !ok || !utf8.ValidRune(n) {
		return "", 0
	}
	return string(n), 1 + digits
}

func readHex(s string, digits int) (rune, bool) {
	if len(s) < digits {
		return 0, false
	}
	n := rune(0)
	for at := range digits {
		value, ok := hexValue(s[at])
		if !ok {
			return 0, false
		}
		n = n<<4 | value
	}
	return n, true
}

func hexValue(b byte) (rune, bool) {
	switch {
	case '0' <= b && b <= '9':
		return rune(b - '0'), true
	case 'a' <= b && b <= 'f':
		return rune(b-'a') + 10, true
	case 'A' <= b && b <= 'F':
		return rune(b-'A') + 10, true
	}
	return 0, false
}
