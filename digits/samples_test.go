package digits_test

import (
	"fmt"
	"math/rand"
	"regexp"
	"slices"
	"strconv"
	"strings"
	"testing"
	"unicode"
	"unicode/utf8"

	"idiom/api"
	"idiom/digits"
)

// What the tests hold the program against is worked out here from the chapter's words, by package regexp, and by counting Roman numerals down.

// The numbering systems, in the words of the chapter.
const (
	consecutiveWords = "arab U+0660, arabext U+06F0, beng U+09E6, deva U+0966, fullwide U+FF10, gujr U+0AE6, guru U+0A66, khmr U+17E0, knda U+0CE6, laoo U+0ED0, latn U+0030, limb U+1946, mlym U+0D66, mymr U+1040, orya U+0B66, tamldec U+0BE6, telu U+0C66, thai U+0E50, tibt U+0F20"
	hanidecWords     = "U+3007, U+4E00, U+4E8C, U+4E09, U+56DB, U+4E94, U+516D, U+4E03, U+516B, U+4E5D"
)

// scripts is the ten digits of each system, as texts.
var scripts = scriptsOf(consecutiveWords, hanidecWords)

// names is the names of all systems, rising.
var names = namesOf(scripts)

// noNames is names of no system.
var noNames = []string{
	"", " ", "x", "roman", "Latn", "LATN", "latn ", " latn", "latn\x00", "lat", "latnn", "ar", "arabex", "arabexts", "hani", "hanidecs", "hant", "native", "latn,arab", "\xff", "tamldec\n",
	repeat("latn", 16384), repeat("x", 65537), repeat("latn", 1<<16),
}

// The form of digits, and that of all Roman numerals in upper case and of the empty text.
var (
	digitsForm  = regexp.MustCompile(`^[0-9]*$`)
	numeralForm = regexp.MustCompile(`^M{0,3}(CM|CD|D?C{0,3})(XC|XL|L?X{0,3})(IX|IV|V?I{0,3})$`)
)

func runeOf(word string) rune {
	n, err := strconv.ParseInt(strings.TrimPrefix(word, "U+"), 16, 32)
	if err != nil {
		panic(err)
	}
	return rune(n)
}

func scriptsOf(consecutive, hanidec string) map[string][]string {
	all := map[string][]string{}
	for _, words := range strings.Split(consecutive, ", ") {
		name, first, _ := strings.Cut(words, " ")
		for digit := range rune(10) {
			all[name] = append(all[name], string(runeOf(first)+digit))
		}
	}
	for _, word := range strings.Split(hanidec, ", ") {
		all["hanidec"] = append(all["hanidec"], string(runeOf(word)))
	}
	return all
}

func namesOf(scripts map[string][]string) []string {
	var names []string
	for name := range scripts {
		names = append(names, name)
	}
	slices.Sort(names)
	return names
}

func repeat(s string, n int) string {
	return strings.Repeat(s, n)
}

// clip is what a message of a test tells of a text that may be long.
func clip(s string) string {
	return fmt.Sprintf("%.100q", s[:min(len(s), 100)])
}

// written is digits in those of a system.
func written(name, digits string) string {
	var pairs []string
	for digit, text := range scripts[name] {
		pairs = append(pairs, strconv.Itoa(digit), text)
	}
	return strings.NewReplacer(pairs...).Replace(digits)
}

// readBack is the texts of a system's digits with the digits 0 to 9 in their places.
func readBack(name, s string) string {
	var pairs []string
	for digit, text := range scripts[name] {
		pairs = append(pairs, text, strconv.Itoa(digit))
	}
	return strings.NewReplacer(pairs...).Replace(s)
}

// wantRender is what Render answers, by the chapter.
func wantRender(name, digits string) (string, api.Errno) {
	switch {
	case scripts[name] == nil:
		return "", api.ErrSystem
	case len(digits) > 65536:
		return "", api.ErrLong
	case !digitsForm.MatchString(digits):
		return "", api.ErrDigit
	}
	return written(name, digits), api.OK
}

// wantRead is what Read answers, by the chapter.
func wantRead(name, s string) (string, int, api.Errno) {
	if scripts[name] == nil {
		return "", 0, api.ErrSystem
	}
	if len(s) > 65536 {
		return "", 0, api.ErrLong
	}
	begin := regexp.MustCompile("^[" + strings.Join(scripts[name], "") + "]*").FindString(s)
	if begin == "" {
		return "", 0, api.ErrDigit
	}
	return readBack(name, begin), len(begin), api.OK
}

// wantRoman is the numeral of n: of all values of numerals of one or two letters, the greatest ones that n has left.
func wantRoman(n int) string {
	text := ""
	values := []int{1000, 900, 500, 400, 100, 90, 50, 40, 10, 9, 5, 4, 1}
	for i, letters := range []string{"M", "CM", "D", "CD", "C", "XC", "L", "XL", "X", "IX", "V", "IV", "I"} {
		for ; n >= values[i]; n -= values[i] {
			text += letters
		}
	}
	return text
}

// wantNumber is the number of a Roman numeral: that of its letters, of which one that stands before a greater one is subtracted; or 0 of any other text.
func wantNumber(s string) int {
	if big := strings.ToUpper(s); s == "" || s != big && s != strings.ToLower(s) || !numeralForm.MatchString(big) || len(big) != len(s) {
		return 0
	}
	values := map[rune]int{'I': 1, 'V': 5, 'X': 10, 'L': 50, 'C': 100, 'D': 500, 'M': 1000}
	sum := 0
	letters := []rune(strings.ToUpper(s))
	for i, letter := range letters {
		if i+1 < len(letters) && values[letter] < values[letters[i+1]] {
			sum -= values[letter]
		} else {
			sum += values[letter]
		}
	}
	return sum
}

func one(random *rand.Rand, list []string) string {
	return list[random.Intn(len(list))]
}

// anyDigits is up to most digits.
func anyDigits(random *rand.Rand, most int) string {
	text := ""
	for range random.Intn(most + 1) {
		text += strconv.Itoa(random.Intn(10))
	}
	return text
}

func rendered(t *testing.T, name, digitsText, want string) {
	t.Helper()
	if got, e := digits.Render(name, digitsText); got != want || e != api.OK {
		t.Errorf("Render(%s, %s): %s, %d, want %s", clip(name), clip(digitsText), clip(got), e, clip(want))
	}
}

func unrendered(t *testing.T, name, digitsText string, want api.Errno) {
	t.Helper()
	if got, e := digits.Render(name, digitsText); got != "" || e != want {
		t.Errorf("Render(%s, %s): %s, %d, want error %d", clip(name), clip(digitsText), clip(got), e, want)
	}
}

func read(t *testing.T, name, s, want string, size int) {
	t.Helper()
	if got, n, e := digits.Read(name, s); got != want || n != size || e != api.OK {
		t.Errorf("Read(%s, %s): %s, %d, %d, want %s, %d", clip(name), clip(s), clip(got), n, e, clip(want), size)
	}
}

func unread(t *testing.T, name, s string, want api.Errno) {
	t.Helper()
	if got, n, e := digits.Read(name, s); got != "" || n != 0 || e != want {
		t.Errorf("Read(%s, %s): %s, %d, %d, want error %d", clip(name), clip(s), clip(got), n, e, want)
	}
}

func roman(t *testing.T, n int, small bool, want string) {
	t.Helper()
	if got, e := digits.Roman(n, small); got != want || e != api.OK {
		t.Errorf("Roman(%d, %v): %s, %d, want %s", n, small, clip(got), e, want)
	}
}

func unroman(t *testing.T, n int) {
	t.Helper()
	for _, small := range []bool{false, true} {
		if got, e := digits.Roman(n, small); got != "" || e != api.ErrRoman {
			t.Errorf("Roman(%d, %v): %s, %d, want error %d", n, small, clip(got), e, api.ErrRoman)
		}
	}
}

func fromRoman(t *testing.T, s string, want int) {
	t.Helper()
	if got, e := digits.FromRoman(s); got != want || e != api.OK {
		t.Errorf("FromRoman(%s): %d, %d, want %d", clip(s), got, e, want)
	}
}

func unfromRoman(t *testing.T, s string) {
	t.Helper()
	if got, e := digits.FromRoman(s); got != 0 || e != api.ErrRoman {
		t.Errorf("FromRoman(%s): %d, %d, want error %d", clip(s), got, e, api.ErrRoman)
	}
}

// TestSamples: what the tests hold the program against is what it is taken for.
func TestSamples(t *testing.T) {
	if len(names) != 20 {
		t.Errorf("%d systems", len(names))
	}
	for _, name := range names {
		for digit, text := range scripts[name] {
			r, size := utf8.DecodeRuneInString(text)
			if size != len(text) || name != "hanidec" && (!unicode.IsDigit(r) || digit == 0 && unicode.IsDigit(r-1)) {
				t.Errorf("%s: digit %d is %q", name, digit, text)
			}
		}
		if len(scripts[name]) != 10 {
			t.Errorf("%s: %d digits", name, len(scripts[name]))
		}
	}
	for n := 1; n < 4000; n++ {
		if s := wantRoman(n); wantNumber(s) != n || wantNumber(strings.ToLower(s)) != n {
			t.Errorf("%d: %s %d", n, s, wantNumber(s))
		}
	}
	if wantNumber("iV") != 0 || wantNumber("IIII") != 0 || wantNumber("") != 0 || wantNumber("V\u0131") != 0 {
		t.Error("texts that are no numerals have numbers")
	}
	if got := written("deva", "2024"); got != "\u0968\u0966\u0968\u096a" || readBack("deva", got) != "2024" {
		t.Errorf("2024 in deva: %q", got)
	}
}
