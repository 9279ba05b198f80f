package digits

import (
	"strings"

	"idiom/api"
)

const (
	greatestRoman = 3999
	capitals      = "IVXLCDM" // by their values: those of the ones are the first three, those of the tens begin two further on, and so on
	smalls        = "ivxlcdm"
)

// romanPatterns is how a digit is written, where a, b and c stand for one, five and ten of its place.
var romanPatterns = [...]string{"", "a", "aa", "aaa", "ab", "b", "ba", "baa", "baaa", "ac"}

// romanValues is the values of the letters.
var romanValues = [...]int{1, 5, 10, 50, 100, 500, 1000}

// Roman returns n as a Roman numeral.
func Roman(n int, small bool) (string, api.Errno) {
	if n < 1 || n > greatestRoman {
		return "", api.ErrRoman
	}
	if small {
		return numeral(n, smalls), api.OK
	}
	return numeral(n, capitals), api.OK
}

// FromRoman returns the number whose Roman numeral is s.
func FromRoman(s string) (int, api.Errno) {
	for _, letters := range [...]string{capitals, smalls} {
		n := sumOf(s, letters)
		if 1 <= n && n <= greatestRoman && numeral(n, letters) == s {
			return n, api.OK
		}
	}
	return 0, api.ErrRoman
}

// numeral returns a number that has one, in the letters of a case.
func numeral(n int, letters string) string {
	var out strings.Builder
	for place, unit := 6, 1000; unit > 0; place, unit = place-2, unit/10 {
		for _, sign := range romanPatterns[n/unit%10] {
			out.WriteByte(letters[place+int(sign-'a')])
		}
	}
	return out.String()
}

// sumOf returns the sum of the letters of s, one before a greater one being subtracted. It is the number of s if s is a numeral at all; what is no letter counts nothing.
func sumOf(s, letters string) int {
	sum, before := 0, 0
	for at := range len(s) {
		value := 0
		if letter := strings.IndexByte(letters, s[at]); letter >= 0 {
			value = romanValues[letter]
		}
		if before < value {
			sum -= 2 * before
		}
		sum += value
		before = value
	}
	return sum
}
