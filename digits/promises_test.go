package digits_test

import (
	"cmp"
	"math/rand"
	"strings"
	"testing"

	"idiom/api"
	"idiom/digits"
)

// behind is texts none of which begins with a digit of the system.
func behind(name string) []string {
	texts := []string{"", " ", "x1", ",", ".5", "\x00", "\xff", "\x91", "\xe0", "\xe0\xa5", "\xe0\xb9", "\ufffd", "\u2028"}
	for _, other := range names {
		if other != name {
			texts = append(texts, scripts[other][0], scripts[other][9])
		}
	}
	return texts
}

// TestReadInvertsRender: P8.5, Read of the result of Render, followed by anything that does not begin with a digit of the system, returns the digits and the length of the result.
func TestReadInvertsRender(t *testing.T) {
	random := rand.New(rand.NewSource(89))
	for _, name := range names {
		for range 40 {
			s := anyDigits(random, 20) + "0"
			text, e := digits.Render(name, s)
			if e != api.OK {
				t.Fatalf("Render(%s, %s): %d", name, s, e)
			}
			for _, more := range behind(name) {
				read(t, name, text+more, s, len(text))
				if more != "" {
					read(t, name, text+more+text, s, len(text))
				}
			}
		}
	}
}

// TestRenderInvertsRead: P8.5, Render inverts Read.
func TestRenderInvertsRead(t *testing.T) {
	random := rand.New(rand.NewSource(90))
	for _, name := range names {
		for range 200 {
			s := written(name, anyDigits(random, 20)+"9") + one(random, behind(name))
			got, n, e := digits.Read(name, s)
			if e != api.OK || n < 0 || n > len(s) {
				t.Fatalf("Read(%s, %q): %q, %d, %d", name, s, got, n, e)
			}
			rendered(t, name, got, s[:n])
		}
	}
}

// TestSystemsAreDistinct: P8.6, the results of Render for the same digits in two systems differ, and neither system reads those of the other.
func TestSystemsAreDistinct(t *testing.T) {
	random := rand.New(rand.NewSource(91))
	all := []string{"0", "1", "2", "3", "4", "5", "6", "7", "8", "9", "0123456789"}
	for range 10 {
		all = append(all, anyDigits(random, 20)+"5")
	}
	for _, a := range names {
		for _, b := range names {
			if a == b {
				continue
			}
			for _, s := range all {
				x, e := digits.Render(a, s)
				y, e2 := digits.Render(b, s)
				if x == y || e != api.OK || e2 != api.OK {
					t.Errorf("%s in %s and in %s: %q %d, %q %d", s, a, b, x, e, y, e2)
				}
				unread(t, a, y, api.ErrDigit)
				unread(t, b, x, api.ErrDigit)
			}
		}
	}
}

// TestOrderStays: P8.7, for all systems except hanidec, the byte order of two strings of equally many digits is the same before and after Render.
func TestOrderStays(t *testing.T) {
	random := rand.New(rand.NewSource(92))
	for _, name := range names {
		if name == "hanidec" {
			continue
		}
		for range 2000 {
			x := anyDigits(random, 6)
			y := x[:random.Intn(len(x)+1)]
			for len(y) < len(x) {
				y += anyDigits(random, len(x)-len(y))
			}
			a, e := digits.Render(name, x)
			b, e2 := digits.Render(name, y)
			if cmp.Compare(x, y) != cmp.Compare(a, b) || e != api.OK || e2 != api.OK {
				t.Errorf("%s: %s and %s become %q %d and %q %d", name, x, y, a, e, b, e2)
			}
		}
	}
}

// TestRomanInverts: P8.8, FromRoman inverts Roman, and Roman inverts FromRoman.
func TestRomanInverts(t *testing.T) {
	for n := 1; n < 4000; n++ {
		for _, small := range []bool{false, true} {
			text, e := digits.Roman(n, small)
			if e != api.OK {
				t.Fatalf("Roman(%d, %v): %d", n, small, e)
			}
			fromRoman(t, text, n)
			want := wantRoman(n)
			if small {
				want = strings.ToLower(want)
			}
			number, e := digits.FromRoman(want)
			if e != api.OK {
				t.Fatalf("FromRoman(%s): %d", want, e)
			}
			roman(t, number, small, want)
		}
	}
}

// TestSumOfLetters: P8.8, the number of a numeral is the sum of its letters, where a letter immediately before a greater one is subtracted; no letter occurs four times in a row.
func TestSumOfLetters(t *testing.T) {
	values := map[byte]int{'I': 1, 'V': 5, 'X': 10, 'L': 50, 'C': 100, 'D': 500, 'M': 1000}
	for n := 1; n < 4000; n++ {
		text, _ := digits.Roman(n, false)
		sum := 0
		for at := range len(text) {
			value := values[text[at]]
			if value == 0 {
				t.Fatalf("Roman(%d): %q", n, text)
			}
			if at+1 < len(text) && value < values[text[at+1]] {
				value = -value
			}
			sum += value
		}
		if sum != n {
			t.Errorf("the letters of %s add up to %d, not to %d", text, sum, n)
		}
		for _, letter := range "IVXLCDM" {
			if strings.Contains(text, repeat(string(letter), 4)) {
				t.Errorf("Roman(%d): %s", n, text)
			}
		}
	}
}
