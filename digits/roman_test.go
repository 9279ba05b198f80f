package digits_test

import (
	"math"
	"math/rand"
	"strings"
	"testing"

	"idiom/api"
	"idiom/digits"
)

// TestRomanExamples: the examples of the chapter.
func TestRomanExamples(t *testing.T) {
	roman(t, 1994, false, "MCMXCIV")
	roman(t, 4, true, "iv")
	unroman(t, 0)
	unroman(t, 4000)
	fromRoman(t, "mmxxiv", 2024)
	for _, s := range []string{"IIII", "iV", "VX", ""} {
		unfromRoman(t, s)
	}
}

// TestRomanDigits: the numerals of each digit, at each place.
func TestRomanDigits(t *testing.T) {
	for words, unit := range map[string]int{
		"I II III IV V VI VII VIII IX": 1,
		"X XX XXX XL L LX LXX LXXX XC": 10,
		"C CC CCC CD D DC DCC DCCC CM": 100,
		"M MM MMM":                     1000,
	} {
		for i, want := range strings.Fields(words) {
			n := (i + 1) * unit
			roman(t, n, false, want)
			roman(t, n, true, strings.ToLower(want))
			fromRoman(t, want, n)
			fromRoman(t, strings.ToLower(want), n)
		}
	}
}

// TestRomanOfAll: P8.4, the numerals of all numbers from 1 to 3999.
func TestRomanOfAll(t *testing.T) {
	for n := 1; n <= 3999; n++ {
		roman(t, n, false, wantRoman(n))
		roman(t, n, true, strings.ToLower(wantRoman(n)))
		fromRoman(t, wantRoman(n), n)
		fromRoman(t, strings.ToLower(wantRoman(n)), n)
	}
}

// TestRomanOfNone: P8.4, ErrRoman if n is not from 1 to 3999.
func TestRomanOfNone(t *testing.T) {
	for _, n := range []int{0, -1, -4, -3999, -4000, 4000, 4001, 4999, 5000, 10000, 1 << 16, 1<<16 + 1, 1<<32 + 5, -1<<32 + 5, math.MaxInt, math.MaxInt - 1, math.MinInt, math.MinInt + 1, math.MinInt + 4} {
		unroman(t, n)
	}
}

// TestFromRomanOfAllShortTexts: P8.4, of all texts of up to six letters, the numerals and no others have a number.
func TestFromRomanOfAllShortTexts(t *testing.T) {
	numbers := map[string]int{}
	for n := 1; n < 4000; n++ {
		numbers[wantRoman(n)] = n
	}
	found := 0
	var try func(s string, left int)
	try = func(s string, left int) {
		want := numbers[s]
		if want != wantNumber(s) {
			t.Fatalf("%q: %d, %d", s, want, wantNumber(s))
		}
		for _, text := range []string{s, strings.ToLower(s)} {
			got, e := digits.FromRoman(text)
			if got != want || (e == api.OK) != (want != 0) || e != api.OK && e != api.ErrRoman {
				t.Fatalf("FromRoman(%q): %d, %d, want %d", text, got, e, want)
			}
		}
		if want != 0 {
			found++
		}
		if left == 0 {
			return
		}
		for _, letter := range "IVXLCDM" {
			try(s+string(letter), left-1)
		}
	}
	try("", 6)
	if found < 1000 {
		t.Errorf("only %d numerals", found)
	}
}

// TestFromRomanOfNearTexts: P8.4, ErrRoman if s is not a Roman numeral: numerals of which a letter is of the other case, left out, put in or another one.
func TestFromRomanOfNearTexts(t *testing.T) {
	random := rand.New(rand.NewSource(88))
	signs := []string{"I", "V", "X", "L", "C", "D", "M", "i", "v", "x", "l", "c", "d", "m", "a", "Z", " ", "\n", "\x00", "\xff", "0", "1", "-", "\u2160", "\u0131", "\u017f", "\u0130", "\uff29", "\u0406", "\u216f"}
	counts := map[bool]int{}
	for range 30000 {
		s := wantRoman(1 + random.Intn(3999))
		if random.Intn(2) == 0 {
			s = strings.ToLower(s)
		}
		at := random.Intn(len(s) + 1)
		if rest := s[at:]; rest != "" && random.Intn(2) == 0 {
			s = s[:at] + one(random, append(signs, "")) + rest[1:]
		} else {
			s = s[:at] + one(random, signs) + rest
		}
		want := wantNumber(s)
		counts[want != 0]++
		if want == 0 {
			unfromRoman(t, s)
		} else {
			fromRoman(t, s, want)
		}
	}
	if counts[true] < 1000 || counts[false] < 10000 {
		t.Errorf("too few: %v", counts)
	}
}

// TestFromRomanOfMixedCase: a numeral is written entirely in one case.
func TestFromRomanOfMixedCase(t *testing.T) {
	for n := 1; n < 4000; n++ {
		big := wantRoman(n)
		small := strings.ToLower(big)
		for at := 1; at < len(big); at++ {
			unfromRoman(t, big[:at]+small[at:])
			unfromRoman(t, small[:at]+big[at:])
		}
	}
}

// TestFromRomanOfOtherTexts: P8.4, ErrRoman for texts of any length.
func TestFromRomanOfOtherTexts(t *testing.T) {
	for _, s := range []string{
		"", " ", "0", "1", "4", "IVI", "IXI", "IXX", "IIX", "IIV", "VV", "LL", "DD", "XXXX", "CCCC", "MMMM", "IL", "IC", "ID", "IM", "XD", "XM", "VL", "LC", "DM", "XCX", "XLX", "CMC", "CDC", "CMD", "VIV", "LXL", "DCD", "VIX", "XIXX", "N", "nulla",
		" I", "I ", "-I", "+I", "I.", "II\n", "\x00", "I\x00", "\xff", "I\xff", "\u2160", "\u2164", "\u217f", "\u0131", "M\u0130", "\uff36", "MMMMCMXCIX", "_I",
		repeat("I", 65536), repeat("M", 65536), repeat("M", 65537), repeat("m", 1<<20), repeat("x", 1<<20+1) + "I", "MMXXIV" + repeat(" ", 1<<20), repeat("IV", 1<<19), repeat("\x00", 1<<17) + "X", repeat("VX", 500) + "I",
	} {
		unfromRoman(t, s)
	}
}
