package runes_test

import (
	"math/rand"
	"slices"
	"strings"
	"testing"
	"unicode/utf8"

	"idiom/api"
	"idiom/runes"
)

const maxRoundTrip = 131072 // up to which Unescape inverts Escape

// pieces are what random texts are made of.
var pieces = slices.Concat(wellFormed, illFormed, []string{
	" ", "\t", "\u0085", "\u200e", "\u2029", "\\", "\\n", `\u00e5`, `\x4`, `\ud800`, `\U10ffff`, "{", "}", "{0}", "{1}", "{9}", "'", "0", "12", "007", "|", "#", "\xe2", "\x82", "\xac", "\xef", "\xbf", "\xbd",
})

// randomTexts are texts by a fixed seed, each text the same in every run.
func randomTexts(n int) []string {
	random := rand.New(rand.NewSource(1))
	var all []string
	for range n {
		var b strings.Builder
		for range random.Intn(12) {
			if random.Intn(4) == 0 {
				b.WriteByte(byte(random.Intn(256)))
			} else {
				b.WriteString(pieces[random.Intn(len(pieces))])
			}
		}
		all = append(all, b.String())
	}
	return append(all, pieces...)
}

func TestPromises(t *testing.T) {
	for _, s := range randomTexts(20000) {
		escaped := runes.Escape(s)
		for _, r := range escaped {
			if r < 0x20 || r > 0x7e {
				t.Fatalf("Escape(%q): %q", s, escaped)
			}
		}
		unescaped(t, escaped, s)
		repaired := runes.Repair(s)
		if !runes.Valid(repaired) || !utf8.ValidString(repaired) || (repaired == s) != runes.Valid(s) || runes.Valid(s) != utf8.ValidString(s) {
			t.Fatalf("Repair(%q): %q", s, repaired)
		}
		if runes.Repair(repaired) != repaired || utf8.RuneCountInString(repaired) != utf8.RuneCountInString(s) {
			t.Fatalf("Repair(%q): %q", s, repaired)
		}
		trimmed := runes.Trim(s)
		if runes.Trim(trimmed) != trimmed || !strings.Contains(s, trimmed) {
			t.Fatalf("Trim(%q): %q", s, trimmed)
		}
		if want := strings.TrimFunc(s, runes.Space); trimmed != want {
			t.Fatalf("Trim(%q): %q, want %q", s, trimmed, want)
		}
		if filled, e := runes.Fill(strings.ReplaceAll(s, "{", "{0}"), []string{"{"}); e != api.OK || filled != s {
			t.Fatalf("Fill of %q with its braces as items: %q %d", s, filled, e)
		}
	}
}

// TestLongRoundTrips: the longest texts for which the promise holds, of what takes most room.
func TestLongRoundTrips(t *testing.T) {
	for _, x := range []string{"a", "\\", "\n", "\x00", "\xff", "\u0080", "\u20ac", "\U0010ffff"} {
		s := strings.Repeat(x, maxRoundTrip/len(x))
		unescaped(t, runes.Escape(s), s)
	}
}

// TestNoCallPanics: whatever is handed in, each call answers, and answers the same again.
func TestNoCallPanics(t *testing.T) {
	type answer struct {
		valid                            bool
		repaired, trimmed, escaped, text string
		ident, at                        int
		errno                            api.Errno
		filled                           string
		fillErrno                        api.Errno
	}
	ask := func(s string) answer {
		var a answer
		a.valid, a.repaired, a.trimmed, a.escaped, a.ident = runes.Valid(s), runes.Repair(s), runes.Trim(s), runes.Escape(s), runes.Ident(s)
		a.text, a.at, a.errno = runes.Unescape(s)
		a.filled, a.fillErrno = runes.Fill(s, []string{s, "x"})
		return a
	}
	for _, s := range randomTexts(5000) {
		first := ask(s)
		if ask(s) != first {
			t.Fatalf("%q is not answered the same again", s)
		}
		if first.errno != api.OK && (first.text != "" || first.errno != api.ErrEscape || first.at >= len(s) || s[first.at] != '\\') {
			t.Fatalf("Unescape(%q): %q %d %d", s, first.text, first.at, first.errno)
		}
		if first.errno == api.OK && first.at != 0 {
			t.Fatalf("Unescape(%q): a place without an error: %d", s, first.at)
		}
		if first.fillErrno != api.OK && (first.filled != "" || first.fillErrno != api.ErrFill) {
			t.Fatalf("Fill(%q): %q %d", s, first.filled, first.fillErrno)
		}
	}
}
