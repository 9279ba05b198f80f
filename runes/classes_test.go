package runes_test

import (
	"math"
	"strconv"
	"strings"
	"testing"
	"unicode/utf8"

	"idiom/api"
	"idiom/runes"
)

// The two definitions, in the words of the chapter.
const (
	spaceWords  = "U+0009 to U+000D, U+0020, U+0085, U+200E, U+200F, U+2028, U+2029"
	syntaxWords = "U+0021 to U+002F, U+003A to U+0040, U+005B to U+005E, U+0060, U+007B to U+007E, U+00A1 to U+00A7, U+00A9, U+00AB, U+00AC, U+00AE, U+00B0, U+00B1, U+00B6, U+00BB, U+00BF, U+00D7, U+00F7, U+2010 to U+2027, U+2030 to U+203E, U+2041 to U+2053, U+2055 to U+205E, U+2190 to U+2BFF, U+2E00 to U+2E7F, U+3001 to U+3003, U+3008 to U+3020, U+3030, U+FD3E, U+FD3F, U+FE45, U+FE46"
)

// runesOf reads such words.
func runesOf(t *testing.T, words string) map[rune]bool {
	t.Helper()
	number := func(s string) rune {
		n, err := strconv.ParseInt(strings.TrimPrefix(s, "U+"), 16, 32)
		if err != nil {
			t.Fatal(err)
		}
		return rune(n)
	}
	all := map[rune]bool{}
	for _, part := range strings.Split(words, ", ") {
		lo, hi, found := strings.Cut(part, " to ")
		if !found {
			hi = lo
		}
		for r := number(lo); r <= number(hi); r++ {
			all[r] = true
		}
	}
	return all
}

// wellFormed and illFormed are texts by all forms of UTF-8, and by all ways to miss them. Of an ill-formed one, each byte is stray.
var (
	wellFormed = []string{
		"", "\x00", "a", "\x7f", "\u0080", "\u07ff", "\u0800", "\u20ac", "\ud7ff", "\ue000", "\ufffd", "\uffff", "\U00010000", "\U0001f600", "\U0010ffff",
		"plain", "gr\u00f6\u00dfe", "\ufffd\ufffd", "\n\u2028\t",
	}
	illFormed = []string{
		"\x80", "\x85", "\xbf", "\xc0", "\xc3", "\xe2", "\xf0", "\xf8", "\xfe", "\xff", // alone
		"\xc0\x80", "\xc1\xbf", "\xe0\x80\x80", "\xe0\x9f\xbf", "\xf0\x80\x80\x80", "\xf0\x8f\xbf\xbf", // longer than need be
		"\xed\xa0\x80", "\xed\xaf\xbf", "\xed\xb0\x80", "\xed\xbf\xbf", // surrogates
		"\xf4\x90\x80\x80", "\xf5\x80\x80\x80", "\xf7\xbf\xbf\xbf", // above U+10FFFF
		"\xe2\x82", "\xef\xbf", "\xf0\x9f\x98", "\xf4\x8f\xbf", // cut short
		"\xe2\xe2\x82", "\xff\xff", "\xef\xef\xbf",
	}
)

func TestValid(t *testing.T) {
	for _, s := range wellFormed {
		if !runes.Valid(s) || !runes.Valid("a"+s+"\u20ac") {
			t.Errorf("Valid(%q): false", s)
		}
	}
	for _, s := range illFormed {
		for _, x := range []string{s, "a" + s, s + "a", "\ufffd" + s, s + "\ufffd", "\U0001f600" + s + "\u20ac"} {
			if runes.Valid(x) {
				t.Errorf("Valid(%q): true", x)
			}
		}
	}
}

// TestValidOfShortTexts goes through all texts of one and of two bytes, and those of three that begin with a lead byte.
func TestValidOfShortTexts(t *testing.T) {
	try := func(b ...byte) {
		s := string(b)
		if got, want := runes.Valid(s), utf8.ValidString(s); got != want {
			t.Fatalf("Valid(%q): %v", s, got)
		}
	}
	for a := range 256 {
		try(byte(a))
		for b := range 256 {
			try(byte(a), byte(b))
			for c := 0x7e; c <= 0xc2; c++ {
				if a >= 0xc0 {
					try(byte(a), byte(b), byte(c))
				}
			}
		}
	}
}

func TestRepair(t *testing.T) {
	for _, s := range wellFormed {
		if got := runes.Repair(s); got != s {
			t.Errorf("Repair(%q): %q", s, got)
		}
	}
	for _, s := range illFormed {
		want := strings.Repeat("\ufffd", len(s))
		if got := runes.Repair(s); got != want {
			t.Errorf("Repair(%q): %q, want %q", s, got, want)
		}
		if got := runes.Repair("a\ufffd" + s + "\u20ac\n"); got != "a\ufffd"+want+"\u20ac\n" {
			t.Errorf("Repair of %q in a text: %q", s, got)
		}
	}
	for s, want := range map[string]string{"a\xffb": "a\ufffdb", "\xe2\u20ac\x82": "\ufffd\u20ac\ufffd", "\x80\x80a\x80": "\ufffd\ufffda\ufffd", "\xc3(": "\ufffd("} {
		if got := runes.Repair(s); got != want {
			t.Errorf("Repair(%q): %q, want %q", s, got, want)
		}
	}
}

func TestSpaceAndSyntax(t *testing.T) {
	spaces, syntax := runesOf(t, spaceWords), runesOf(t, syntaxWords)
	try := func(r rune) {
		if got := runes.Space(r); got != spaces[r] {
			t.Errorf("Space(%#x): %v", r, got)
		}
		if got := runes.Syntax(r); got != syntax[r] {
			t.Errorf("Syntax(%#x): %v", r, got)
		}
	}
	for r := rune(-0x10000); r <= utf8.MaxRune+0x20000; r++ {
		try(r)
	}
	for r := range spaces { // numbers that agree with a rune in their low bits only
		try(-r)
		try(r | 1<<24)
		try(math.MinInt32 | r)
	}
	for r := range syntax {
		try(-r)
		try(r | 1<<24)
		try(math.MinInt32 | r)
	}
	try(math.MaxInt32)
	try(math.MinInt32)
}

func TestIdentOfNumbers(t *testing.T) {
	for _, s := range []string{"0", "1", "9", "10", "12", "64", "100", "999999999", "1000000000", "2099999999", "2147483640", "2147483646", "2147483647"} {
		if got := runes.Ident(s); got != api.IdentNumber {
			t.Errorf("Ident(%q): %d", s, got)
		}
	}
	for _, s := range []string{
		"00", "01", "012", "0000000000", "2147483648", "2147483650", "2147483747", "2200000000", "3000000000", "9999999999",
		"10000000000", "02147483647", "4294967296", "4294967297", "18446744073709551616", "18446744073709551617",
		strings.Repeat("9", 64), strings.Repeat("1", 65), strings.Repeat("0", 1000),
		"-1", "+1", "-0", "1.0", "1,000", "1 ", " 1", "1a", "0x1", "1_0", "1e1", "9\u00df", "1\x00", "1\xff", "0\xff", "1\u0661",
	} {
		if got := runes.Ident(s); got != api.IdentNone {
			t.Errorf("Ident(%q): %d", s, got)
		}
	}
}

func TestIdentOfNames(t *testing.T) {
	for _, s := range []string{
		"n", "count", "gr\u00f6\u00dfe", "a_b", "_", "_1", "a1", "A0z9", "\u0661", "\u0661\u0662", "\uff11", "\x00", "a\x7f", "\u00a0", "\ufffd", "\u20ac", "\u2054", "\U0001f600", "\U0010ffff", "\ue000",
		strings.Repeat("a", 63), strings.Repeat("a", 64), strings.Repeat("\u00df", 32), strings.Repeat("\U0001f600", 16),
	} {
		if got := runes.Ident(s); got != api.IdentName {
			t.Errorf("Ident(%q): %d", s, got)
		}
	}
	for _, s := range []string{
		"", " ", "a b", " a", "a ", "a\n", "\ta", "a\u2028", "\u200ea", "a-b", "a.b", "{a}", "#", "a'", "a|", "\u2190", "a\u3030",
		"\xff", "a\xff", "\x85", "a\xc2", "\xed\xa0\x80", "a\xe2\x82", "\xef\xbf",
		strings.Repeat("a", 65), strings.Repeat("\u00df", 32) + "a", strings.Repeat("\u00df", 33), strings.Repeat("a", 100000),
		"1a", "0a", "9_",
	} {
		if got := runes.Ident(s); got != api.IdentNone {
			t.Errorf("Ident(%q): %d", s, got)
		}
	}
}

// TestIdentOfEachRune: every rune that is neither white space nor syntax may stand in a name; a digit, not first.
func TestIdentOfEachRune(t *testing.T) {
	spaces, syntax := runesOf(t, spaceWords), runesOf(t, syntaxWords)
	for r := rune(0); r <= utf8.MaxRune; r++ {
		if !utf8.ValidRune(r) {
			continue
		}
		inside, first := api.IdentName, api.IdentName
		if spaces[r] || syntax[r] {
			inside, first = api.IdentNone, api.IdentNone
		}
		if '0' <= r && r <= '9' {
			first = api.IdentNumber
		}
		if got := runes.Ident(string(r)); got != first {
			t.Errorf("Ident(%q): %d", string(r), got)
		}
		if got := runes.Ident("a" + string(r)); got != inside {
			t.Errorf("Ident(%q): %d", "a"+string(r), got)
		}
		if got := runes.Ident("a" + string(r) + "b"); got != inside {
			t.Errorf("Ident(%q): %d", "a"+string(r)+"b", got)
		}
	}
}

func TestTrim(t *testing.T) {
	for s, want := range map[string]string{
		"":  "",
		"a": "a",
		" ": "",
		"\t\n\v\f\r \u0085\u200e\u200f\u2028\u2029": "",
		"\u200e a b\n\u2028":                        "a b",
		"  a":                                       "a",
		"a  ":                                       "a",
		" a \u2029\u0085\t b ":                      "a \u2029\u0085\t b",
		"\u00a0a\u3000":                             "\u00a0a\u3000", // spaces of another kind
		"\ufeffa\u200b":                             "\ufeffa\u200b",
		" {a} ":                                     "{a}",
		" \u20ac ":                                  "\u20ac",
		" \U0001f600\n":                             "\U0001f600",
		" \ufffd ":                                  "\ufffd",
		" \ufffd":                                   "\ufffd",
		" \xff ":                                    "\xff",
		"\xff \xfe":                                 "\xff \xfe",
		"\x85a\x85":                                 "\x85a\x85", // U+0085 is white space, the byte is not
		"\x85":                                      "\x85",
		" \x85 ":                                    "\x85",
		"\xc2 a \xc2":                               "\xc2 a \xc2",
		"\xe2\x80 ":                                 "\xe2\x80",
		" \xe2\x80":                                 "\xe2\x80",
		"\xe2\u0085a\u0085\x85":                     "\xe2\u0085a\u0085\x85",
		"\x80\u2028":                                "\x80",
		"\u2028\xa8":                                "\xa8",
		"\xc2\u200e":                                "\xc2",
		"\u0085\xc2\x85\xc2":                        "\xc2",
		" \xff\xfea\xff\xff\n":                      "\xff\xfea\xff\xff",
	} {
		if got := runes.Trim(s); got != want {
			t.Errorf("Trim(%q): %q, want %q", s, got, want)
		}
	}
}

// TestTrimOfEachRune: just the white space goes, at both ends.
func TestTrimOfEachRune(t *testing.T) {
	spaces := runesOf(t, spaceWords)
	for r := rune(0); r <= utf8.MaxRune; r++ {
		if !utf8.ValidRune(r) {
			continue
		}
		x := string(r)
		want := x + "a" + x + "b" + x
		if spaces[r] {
			want = "a" + x + "b"
		}
		if got := runes.Trim(x + "a" + x + "b" + x); got != want {
			t.Errorf("Trim around %#x: %q", r, got)
		}
	}
}

// TestAnyLength: the calls that have no error take texts beyond all limits.
func TestAnyLength(t *testing.T) {
	const n = 2*api.MaxOut + 3
	long := strings.Repeat("a", n)
	if !runes.Valid(long) || runes.Valid(long+"\xff") {
		t.Error("Valid")
	}
	if runes.Repair(long+"\xff") != long+"\ufffd" {
		t.Error("Repair")
	}
	if runes.Ident(long) != api.IdentNone {
		t.Error("Ident")
	}
	if runes.Trim(strings.Repeat(" ", n)+long+strings.Repeat("\u2028", n)) != long {
		t.Error("Trim")
	}
	if runes.Escape(long+"\n") != long+`\n` {
		t.Error("Escape")
	}
}
