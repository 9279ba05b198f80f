package runes_test

import (
	"fmt"
	"strings"
	"testing"
	"unicode/utf8"

	"idiom/api"
	"idiom/runes"
)

// escapeOf is how one rune is represented.
func escapeOf(r rune) string {
	if short := map[rune]string{'\\': `\\`, '\n': `\n`, '\r': `\r`, '\t': `\t`}[r]; short != "" {
		return short
	}
	switch {
	case 0x20 <= r && r <= 0x7e:
		return string(r)
	case r <= 0xffff:
		return fmt.Sprintf(`\u%04x`, r)
	}
	return fmt.Sprintf(`\U%06x`, r)
}

func TestEscapeOfEachRune(t *testing.T) {
	for r := rune(0); r <= utf8.MaxRune; r++ {
		if !utf8.ValidRune(r) {
			continue
		}
		if got, want := runes.Escape(string(r)), escapeOf(r); got != want {
			t.Fatalf("Escape of %#x: %q, want %q", r, got, want)
		}
	}
}

func TestEscape(t *testing.T) {
	for s, want := range map[string]string{
		"":                         "",
		"plain {n} 'x' \" ~":       "plain {n} 'x' \" ~",
		"\u00e5\n\xff":             `\u00e5\n\xff`,
		"\\n":                      `\\n`,
		"\\\\":                     `\\\\`,
		"\r\n\t\v\f\x00\x1f\x7f":   `\r\n\t\u000b\u000c\u0000\u001f\u007f`,
		"\u0080\u00ab\ufffd\uffff": `\u0080\u00ab\ufffd\uffff`,
		"\U00010000\U0010ffff":     `\U010000\U10ffff`,
		"\xef\xbf":                 `\xef\xbf`,
		"\xed\xa0\x80":             `\xed\xa0\x80`,
		"\xc0\x80":                 `\xc0\x80`,
		"\xf4\x90\x80\x80":         `\xf4\x90\x80\x80`,
		"\xe2\u20ac\x82\xac":       `\xe2\u20ac\x82\xac`,
		"\xffff":                   `\xffff`, // what follows a stray byte may look like a digit
		"\u00e5e5":                 `\u00e5e5`,
	} {
		if got := runes.Escape(s); got != want {
			t.Errorf("Escape(%q): %q, want %q", s, got, want)
		}
	}
	for b := 0x80; b < 0x100; b++ {
		if got, want := runes.Escape("a"+string([]byte{byte(b)})+"b"), fmt.Sprintf(`a\x%02xb`, b); got != want {
			t.Errorf("Escape of the byte %#x: %q", b, got)
		}
	}
}

// unescaped fails unless s represents want.
func unescaped(t *testing.T, s, want string) {
	t.Helper()
	if got, at, e := runes.Unescape(s); got != want || at != 0 || e != api.OK {
		t.Errorf("Unescape(%.40q): %.40q %d %d, want %.40q", s, got, at, e, want)
	}
}

// refused fails unless Unescape refuses s at a place.
func refused(t *testing.T, s string, place int, errno api.Errno) {
	t.Helper()
	if got, at, e := runes.Unescape(s); got != "" || at != place || e != errno {
		t.Errorf("Unescape(%.40q): %.40q %d %d, want %d at %d", s, got, at, e, errno, place)
	}
}

func TestUnescape(t *testing.T) {
	for s, want := range map[string]string{
		"":                     "",
		"plain {n} 'x' ~":      "plain {n} 'x' ~",
		`\\`:                   "\\",
		`\\n`:                  "\\n",
		`\\\n`:                 "\\\n",
		`\n\r\t`:               "\n\r\t",
		`a\nb`:                 "a\nb",
		`\u00e5\n\xff`:         "\u00e5\n\xff",
		`\u00E5\U01F600\xFF`:   "\u00e5\U0001f600\xff",
		`\uaBcD`:               "\uabcd",
		`\u0000\U000000\x00`:   "\x00\x00\x00",
		`\u0041\U000041\x41`:   "AAA",
		`\x7c|`:                "||",
		`\xe2\x82\xac`:         "\u20ac",
		`\u00411`:              "A1",
		`\x411`:                "A1",
		`\U0000411`:            "A1",
		`\ud7ff\ue000\ufffd`:   "\ud7ff\ue000\ufffd",
		`\U00d7ff\U00e000`:     "\ud7ff\ue000",
		`\uffff\U010000`:       "\uffff\U00010000",
		`\U10ffff\U10FFFF`:     "\U0010ffff\U0010ffff",
		"\u20ac\xff\x00\n\x85": "\u20ac\xff\x00\n\x85", // other bytes represent themselves
		"/u0041 u0041 x41":     "/u0041 u0041 x41",
	} {
		unescaped(t, s, want)
	}
	for b := range 256 {
		want := "<" + string([]byte{byte(b)}) + ">"
		unescaped(t, fmt.Sprintf(`<\x%02x>`, b), want)
		unescaped(t, fmt.Sprintf(`<\x%02X>`, b), want)
	}
	for r := rune(0); r <= utf8.MaxRune; r++ {
		if !utf8.ValidRune(r) {
			continue
		}
		if r <= 0xffff {
			unescaped(t, fmt.Sprintf(`\u%04x`, r), string(r))
		}
		unescaped(t, fmt.Sprintf(`\U%06X`, r), string(r))
	}
}

func TestUnescapeRefuses(t *testing.T) {
	for s, at := range map[string]int{
		`\`:            0,
		`a\`:           1,
		`\\\`:          2,
		`\u12`:         0,
		`a\q`:          1,
		`\u`:           0,
		`\u1`:          0,
		`\u123`:        0,
		`\u123 `:       0,
		`\u 123`:       0,
		`\u+123`:       0,
		`\U10fff`:      0,
		`\U0041`:       0,
		`\x`:           0,
		`\x4`:          0,
		`\x4g`:         0,
		`\xg4`:         0,
		`\x-1`:         0,
		`\ud800`:       0,
		`\uDBFF`:       0,
		`\udc00`:       0,
		`\udfff`:       0,
		`\ud83d\ude00`: 0, // no pair of surrogates either
		`\U00d800`:     0,
		`\U00DFFF`:     0,
		`\U110000`:     0,
		`\U800000`:     0,
		`\Uffffff`:     0,
		`ab\u20ac\q`:   8,
		`\n\t\u12 \q`:  4,
		`\x41\u\q`:     4,
		"\u20ac\xff\\": 4,
		`\q\q`:         0,
		`\u12\x41`:     0,
		`\\n\ `:        3,
		"\\\n":         0,
		"\\\x00":       0,
		"\\\u00e5":     0,
		"\\u\uff11123": 0, // a digit of another kind
	} {
		refused(t, s, at, api.ErrEscape)
	}
	for b := range 256 { // the letters of escape sequences, and no other byte
		if strings.IndexByte(`\nrtxuU`, byte(b)) < 0 {
			refused(t, `\n\`+string([]byte{byte(b)})+"00004100", 2, api.ErrEscape)
		}
		if strings.IndexByte("0123456789abcdefABCDEF", byte(b)) < 0 {
			digit := string([]byte{byte(b)})
			refused(t, `\x`+digit+"0", 0, api.ErrEscape)
			refused(t, `\x0`+digit, 0, api.ErrEscape)
			refused(t, `\u000`+digit, 0, api.ErrEscape)
			refused(t, `\U0000`+digit+"0", 0, api.ErrEscape)
		}
	}
	for r := 0xd800; r <= 0xdfff; r++ {
		refused(t, fmt.Sprintf(`\u%04x`, r), 0, api.ErrEscape)
		refused(t, fmt.Sprintf(`\U%06x`, r), 0, api.ErrEscape)
	}
}

func TestUnescapeOfLongTexts(t *testing.T) {
	limit := strings.Repeat("a", api.MaxOut)
	unescaped(t, limit, limit)
	unescaped(t, limit[1:]+"\xff", limit[1:]+"\xff")
	unescaped(t, strings.Repeat(`\n`, api.MaxOut/2), strings.Repeat("\n", api.MaxOut/2))
	refused(t, limit[2:]+`\q`, api.MaxOut-2, api.ErrEscape)
	refused(t, limit[1:]+`\`, api.MaxOut-1, api.ErrEscape)
	refused(t, limit+"a", 0, api.ErrLong)
	refused(t, `\q`+limit, 0, api.ErrLong) // a text that is too long isn't read at all
	refused(t, limit+`\q`, 0, api.ErrLong)
	refused(t, strings.Repeat(`\n`, api.MaxOut/2)+"a", 0, api.ErrLong) // what counts is the text, not its meaning
}
