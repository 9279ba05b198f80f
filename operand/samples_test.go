package operand_test

import (
	"fmt"
	"math/big"
	"math/rand"
	"regexp"
	"slices"
	"strconv"
	"strings"
	"testing"

	"idiom/api"
	"idiom/operand"
)

// What the tests hold the program against is worked out here from the texts of numbers, and by package math/big, without the program.

// letters is all operand letters.
var letters = []string{"n", "i", "v", "w", "f", "t", "c", "e"}

// form is that of a text without a sign, however long.
var form = regexp.MustCompile(`^(0|[1-9][0-9]*)(\.[0-9]+)?$`)

// dec takes a text apart, whatever it is.
func dec(text string) api.Dec {
	var d api.Dec
	text, d.Neg = strings.CutPrefix(text, "-")
	d.Int, d.Frac, _ = strings.Cut(text, ".")
	return d
}

// textOf puts together what dec takes apart.
func textOf(d api.Dec) string {
	text := d.Int
	if d.Frac != "" {
		text += "." + d.Frac
	}
	if d.Neg {
		text = "-" + text
	}
	return text
}

func repeat(s string, n int) string {
	return strings.Repeat(s, n)
}

// integerOf is digits as an integer.
func integerOf(digits string) string {
	if digits = strings.TrimLeft(digits, "0"); digits == "" {
		return "0"
	}
	return digits
}

// wantShown is the number shown, without its sign, for a text and an exponent: its point moves to the right.
func wantShown(text string, exp int) string {
	whole, frac, _ := strings.Cut(strings.TrimPrefix(text, "-"), ".")
	frac += repeat("0", max(0, exp-len(frac)))
	return strings.TrimSuffix(integerOf(whole+frac[:exp])+"."+frac[exp:], ".")
}

// isLong tells whether a text has more digits than a decimal may have.
func isLong(text string) bool {
	return len(strings.Trim(text, "-"))-strings.Count(text, ".") > 40
}

// wantOps is the operands of a text and an exponent, however long.
func wantOps(text string, exp int) api.Ops {
	whole, frac, _ := strings.Cut(wantShown(text, exp), ".")
	trimmed := strings.TrimRight(frac, "0")
	return api.Ops{N: api.Dec{Int: whole, Frac: trimmed}, I: whole, V: len(frac), W: len(trimmed), F: integerOf(frac), T: integerOf(trimmed), E: exp}
}

// wantGet is what each letter stands for, as text.
func wantGet(o api.Ops, letter string) string {
	return map[string]string{
		"n": textOf(o.N), "i": o.I, "v": strconv.Itoa(o.V), "w": strconv.Itoa(o.W), "f": o.F, "t": o.T, "c": strconv.Itoa(o.E), "e": strconv.Itoa(o.E),
	}[letter]
}

// scaled is the value of a text times ten to 40, a whole number.
func scaled(text string) *big.Int {
	whole, frac, _ := strings.Cut(text, ".")
	n, ok := new(big.Int).SetString(whole+frac+repeat("0", 40-len(frac)), 10)
	if !ok {
		panic("no number: " + text)
	}
	return n
}

// wantMod is what by leaves of a text without a sign, as text of the same scale.
func wantMod(text, by string) string {
	if by == "" {
		return text
	}
	_, frac, _ := strings.Cut(text, ".")
	digits := new(big.Int).Rem(scaled(text), scaled(by)).String()
	digits = repeat("0", max(0, 41-len(digits))) + digits
	point := len(digits) - 40
	return strings.TrimSuffix(digits[:point]+"."+digits[point:point+len(frac)], ".")
}

// wantIn tells whether a relation holds, if it is valid.
func wantIn(o api.Ops, r api.Rel) bool {
	x := scaled(wantMod(wantGet(o, r.Op), r.Mod))
	isWhole := new(big.Int).Rem(x, scaled("1")).Sign() == 0
	held := slices.ContainsFunc(r.List, func(s api.Span) bool {
		return (isWhole || r.Within) && scaled(s.Lo).Cmp(x) <= 0 && x.Cmp(scaled(s.Hi)) <= 0
	})
	return held != r.Not
}

// spans takes apart a list as in `1..3,5`.
func spans(text string) []api.Span {
	var list []api.Span
	for _, part := range strings.Split(text, ",") {
		lo, hi, two := strings.Cut(part, "..")
		if !two {
			hi = lo
		}
		list = append(list, api.Span{Lo: lo, Hi: hi})
	}
	return list
}

// small is the texts of short decimals, each with and without a sign and by many scales.
func small() []string {
	var all []string
	for _, whole := range []string{"0", "1", "2", "5", "9", "10", "11", "12", "21", "100", "101", "1000000"} {
		for _, frac := range []string{"", ".0", ".00", ".000", ".1", ".5", ".9", ".05", ".10", ".50", ".001", ".010", ".100", ".250", ".2500", ".0099", ".12345"} {
			all = append(all, whole+frac)
			if strings.Trim(whole+frac, "0.") != "" {
				all = append(all, "-"+whole+frac)
			}
		}
	}
	return all
}

// edges is the texts of decimals of 40 digits or nearly as many.
func edges() []string {
	all := []string{"0." + repeat("0", 39), "0." + repeat("0", 20)}
	for _, text := range []string{
		repeat("9", 40), repeat("9", 39), "1" + repeat("0", 39), "1" + repeat("0", 38), "1" + repeat("0", 38) + ".5", repeat("9", 39) + ".0", repeat("9", 39) + ".9",
		"0." + repeat("9", 39), "0." + repeat("0", 38) + "1", "0." + repeat("0", 37) + "10", "0.1" + repeat("0", 38), "1." + repeat("0", 39), "9." + repeat("9", 39), "1." + repeat("0", 38) + "1",
		repeat("9", 20) + "." + repeat("9", 20), "1" + repeat("0", 19) + "." + repeat("0", 20), repeat("12345678", 5), repeat("87654321", 3) + "." + repeat("24680", 3),
		"9223372036854775807", "9223372036854775808", "18446744073709551616.0", "18446744073709551617",
	} {
		all = append(all, text, "-"+text)
	}
	return all
}

// randomTexts is the texts of decimals of at most so many digits, many of them zeros, by a fixed seed.
func randomTexts(seed int64, n, most int) []string {
	random := rand.New(rand.NewSource(seed))
	all := make([]string, n)
	for at := range all {
		digits := make([]byte, 1+random.Intn(most))
		for i := range digits {
			digits[i] = "00000123456789125900"[random.Intn(20)]
		}
		point := 1 + random.Intn(len(digits))
		all[at] = strings.TrimSuffix(integerOf(string(digits[:point]))+"."+string(digits[point:]), ".")
		if strings.Trim(all[at], "0.") != "" && random.Intn(2) == 0 {
			all[at] = "-" + all[at]
		}
	}
	return all
}

// samples is all of these.
func samples() []string {
	all := append(small(), edges()...)
	all = append(all, randomTexts(1, 60, 40)...)
	return append(all, randomTexts(2, 60, 8)...)
}

// exponents is some that Of accepts.
var exponents = []int{0, 1, 2, 3, 6, 19, 20, 38, 39, 40}

// operands is those of all samples, with some exponents, that are not too long.
func operands() []api.Ops {
	var all []api.Ops
	for _, text := range samples() {
		for _, exp := range exponents {
			if !isLong(wantShown(text, exp)) {
				all = append(all, wantOps(text, exp))
			}
		}
	}
	return all
}

// wrongDecs is decimals that are not valid.
func wrongDecs() []api.Dec {
	long := repeat("7", 100000)
	return []api.Dec{
		{}, {Frac: "5"}, {Neg: true}, {Int: "00"}, {Int: "01", Frac: "5"}, {Neg: true, Int: "0"}, {Neg: true, Int: "0", Frac: "00"},
		{Int: "a"}, {Int: "1", Frac: "a"}, {Int: "-1"}, {Int: "+1"}, {Int: "1.5"}, {Int: "1", Frac: "."}, {Int: " 1"}, {Int: "1", Frac: "5\n"}, {Int: "\u0661"}, {Int: "1", Frac: "\xff"},
		{Int: repeat("9", 41)}, {Int: "1", Frac: repeat("0", 40)}, {Int: repeat("1", 20), Frac: repeat("1", 21)}, {Int: long}, {Int: "1", Frac: long},
	}
}

// wrongNumbers is strings that are not numbers.
func wrongNumbers() []string {
	return []string{
		"00", "07", "007", "01", "-1", "+1", "-0", "1.0", "1.", ".5", "0.5", "1,000", "1e3", "0x1", " 1", "1 ", "1\n", "\t1", "a", "1a", "n", "1..2", "/", ":", "\x00", "\xff", "1\xff", "\u0661", "\uff11",
		repeat("9", 41), "1" + repeat("0", 40), "0" + repeat("9", 39), repeat("0", 41), repeat("9", 1<<17), repeat("x", 1<<17),
	}
}

// wrongLetters is strings that are not operand letters.
var wrongLetters = []string{"", "x", "N", "I", "V", "W", "F", "T", "C", "E", "nn", "n ", " n", "i\n", "ce", "ec", "a", "d", "u", "z", "0", "1", "\x00", "\xff", "\uff4e", "n = 1", repeat("n", 1<<17), repeat("e", 65)}

// isValid tells whether o is valid, by the definition.
func isValid(o api.Ops) bool {
	n := textOf(o.N)
	if !form.MatchString(n) || dec(n) != o.N || o.V < 0 || o.V > 40 || len(o.N.Int)+o.V > 40 || o.V < len(o.N.Frac) || o.E < 0 || o.E > 40 {
		return false
	}
	o.N.Frac += repeat("0", o.V-len(o.N.Frac))
	want := wantOps(textOf(o.N), 0)
	want.E, o.N = o.E, dec(n)
	return o == want
}

// altered is operands of which one field is another one, or none that may be.
func altered() []api.Ops {
	var all []api.Ops
	add := func(text string, change func(o *api.Ops)) {
		o := wantOps(text, 0)
		change(&o)
		all = append(all, o)
	}
	for _, text := range []string{"21.50", "0", "0.00", "7", "1200000", "0.05", "1." + repeat("0", 39), repeat("9", 40)} {
		for _, by := range []int{-1, 1, -41, 41, 1 << 32, -(1 << 32)} {
			add(text, func(o *api.Ops) { o.V += by })
			add(text, func(o *api.Ops) { o.W += by })
		}
		for _, exp := range append([]int{1, 39, 40}, beyond...) {
			add(text, func(o *api.Ops) { o.E = exp })
		}
		for _, s := range append(wrongNumbers(), "", "0", "1", "3", "7", "22", "51", repeat("9", 39), "1"+repeat("0", 39)) {
			add(text, func(o *api.Ops) { o.I = s })
			add(text, func(o *api.Ops) { o.F = s })
			add(text, func(o *api.Ops) { o.T = s })
		}
		for _, d := range append(wrongDecs(), dec("21.6"), dec("-21.5"), dec("21.50"), dec("0.0"), dec("7.0"), dec("8"), dec("-7"), dec("-0.05"), dec("0.5"), dec("1.0"), dec("-"+repeat("9", 40))) {
			add(text, func(o *api.Ops) { o.N = d })
		}
	}
	add("21.50", func(o *api.Ops) { o.F, o.T = o.T, o.F })
	add("21.50", func(o *api.Ops) { o.V, o.W = o.W, o.V })
	add("7.0", func(o *api.Ops) { o.N.Frac, o.W = "0", 1 })
	add("7", func(o *api.Ops) { o.N.Neg = true })
	return append(all, api.Ops{}, api.Ops{I: "0", F: "0", T: "0"}, api.Ops{F: "0", T: "0"}, api.Ops{N: dec("0")}, wantOps("0", 41), wantOps("1", 40), wantOps(repeat("9", 40)+".0", 0), wantOps("0."+repeat("0", 40), 0), wantOps(repeat("1", 20)+"."+repeat("0", 21), 0))
}

// notValid is those of them that are not valid.
func notValid() []api.Ops {
	return slices.DeleteFunc(altered(), isValid)
}

// clip is what a message of a test tells of a value that may be long.
func clip(value any) string {
	text := fmt.Sprintf("%+v", value)
	return text[:min(len(text), 150)]
}

// TestSamples: the samples are what the tests take them for.
func TestSamples(t *testing.T) {
	for _, text := range samples() {
		if d := dec(text); textOf(d) != text || isLong(text) || d.Int != integerOf(d.Int) || d.Neg && strings.Trim(text, "-0.") == "" {
			t.Errorf("a sample that is not valid: %s", text)
		}
	}
	if n := len(operands()); n < 2000 {
		t.Errorf("only %d samples of operands", n)
	}
	for _, o := range operands() {
		if !isValid(o) {
			t.Errorf("a sample that is not valid: %s", clip(o))
		}
	}
	for _, d := range wrongDecs() {
		if form.MatchString(textOf(d)) && dec(textOf(d)) == d && !isLong(textOf(d)) && !d.Neg {
			t.Errorf("a wrong sample that is valid: %s", clip(d))
		}
	}
	if n, all := len(notValid()), len(altered()); n < 600 || n > all-40 {
		t.Errorf("%d of %d samples are not valid", n, all)
	}
}

// mustOf is the operands that Of returns for a text.
func mustOf(t *testing.T, text string) api.Ops {
	t.Helper()
	o, e := operand.Of(dec(text), 0)
	if e != api.OK {
		t.Fatalf("Of(%s, 0): error %d", text, e)
	}
	return o
}
