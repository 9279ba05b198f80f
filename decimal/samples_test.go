package decimal_test

import (
	"math/big"
	"math/rand"
	"regexp"
	"strings"
	"testing"

	"idiom/api"
)

// What the tests hold the program against is worked out here by package math/big, without the program.

// dec takes a text apart, whatever it is.
func dec(text string) api.Dec {
	var d api.Dec
	text, d.Neg = strings.CutPrefix(text, "-")
	d.Int, d.Frac, _ = strings.Cut(text, ".")
	return d
}

func decs(texts ...string) []api.Dec {
	var all []api.Dec
	for _, text := range texts {
		all = append(all, dec(text))
	}
	return all
}

// textOf puts together what dec takes apart.
func textOf(d api.Dec) string {
	text := d.Int
	if d.Frac != "" {
		text += "." + d.Frac
	}
	if d.Neg {
		text = "-" + text
	}
	return text
}

var (
	intForm  = regexp.MustCompile(`^(0|[1-9][0-9]*)$`)
	fracForm = regexp.MustCompile(`^[0-9]*$`)
	zeroForm = regexp.MustCompile(`^0*$`)
)

func isZero(d api.Dec) bool {
	return zeroForm.MatchString(d.Int + d.Frac)
}

func isValid(d api.Dec) bool {
	return intForm.MatchString(d.Int) && fracForm.MatchString(d.Frac) && len(d.Int+d.Frac) <= 40 && !(d.Neg && isZero(d))
}

// unscaled is d times ten to a power that is not below its scale.
func unscaled(d api.Dec, scale int) *big.Int {
	n, ok := new(big.Int).SetString(d.Int+d.Frac+strings.Repeat("0", scale-len(d.Frac)), 10)
	if !ok {
		panic("no decimal: " + textOf(d))
	}
	if d.Neg {
		n.Neg(n)
	}
	return n
}

// written is the decimal of n divided by ten to the scale, or ErrBound.
func written(n *big.Int, scale int) (api.Dec, api.Errno) {
	digits := new(big.Int).Abs(n).String()
	if missing := scale + 1 - len(digits); missing > 0 {
		digits = strings.Repeat("0", missing) + digits
	}
	if len(digits) > 40 {
		return api.Dec{}, api.ErrBound
	}
	point := len(digits) - scale
	return api.Dec{Neg: n.Sign() < 0, Int: digits[:point], Frac: digits[point:]}, api.OK
}

func larger(a, b api.Dec) int {
	return max(len(a.Frac), len(b.Frac))
}

func repeat(s string, n int) string {
	return strings.Repeat(s, n)
}

// small is short decimals, each with and without a sign and by many scales.
func small() []api.Dec {
	var all []api.Dec
	for _, whole := range []string{"0", "1", "2", "3", "5", "9", "10", "12", "99", "100"} {
		for _, frac := range []string{"", "0", "00", "000", "1", "5", "9", "05", "10", "50", "99", "001", "250"} {
			for _, neg := range []bool{false, true} {
				d := api.Dec{Neg: neg, Int: whole, Frac: frac}
				if isValid(d) {
					all = append(all, d)
				}
			}
		}
	}
	return all
}

// edges is decimals around the limit of 40 digits and of int64.
func edges() []api.Dec {
	texts := []string{
		repeat("9", 40), repeat("9", 39), "1" + repeat("0", 39), "1" + repeat("0", 38), "5" + repeat("0", 39), "4" + repeat("9", 39),
		"0." + repeat("9", 39), "0." + repeat("0", 38) + "1", "0." + repeat("0", 37) + "1", "0.5" + repeat("0", 38), "0.1" + repeat("0", 38),
		"9." + repeat("9", 39), "1." + repeat("0", 39), "1." + repeat("0", 38) + "1", "8." + repeat("9", 39),
		repeat("9", 20) + "." + repeat("9", 20), "1" + repeat("0", 19) + "." + repeat("0", 20), repeat("9", 39) + ".9", repeat("9", 39) + ".0", "1" + repeat("0", 38) + ".5",
		repeat("12345678", 5), repeat("87654321", 3) + "." + repeat("24680", 3), "0." + repeat("135", 13),
		"9223372036854775807", "9223372036854775808", "9223372036854775809", "18446744073709551615", "18446744073709551616",
	}
	var all []api.Dec
	for _, text := range texts {
		all = append(all, dec(text), dec("-"+text))
	}
	return append(all, decs("0", "0."+repeat("0", 39), "0."+repeat("0", 20))...)
}

// randomDecs is valid decimals of at most so many digits, by a fixed seed.
func randomDecs(seed int64, n, most int) []api.Dec {
	random := rand.New(rand.NewSource(seed))
	digit := func() byte {
		if random.Intn(2) == 0 {
			return "0099999551"[random.Intn(10)]
		}
		return byte('0' + random.Intn(10))
	}
	var all []api.Dec
	for len(all) < n {
		digits := make([]byte, 1+random.Intn(most))
		for at := range digits {
			digits[at] = digit()
		}
		point := 1 + random.Intn(len(digits))
		d := api.Dec{Neg: random.Intn(2) == 0, Int: string(digits[:point]), Frac: string(digits[point:])}
		if isValid(d) {
			all = append(all, d)
		}
	}
	return all
}

// samples is all of these.
func samples() []api.Dec {
	all := append(small(), edges()...)
	all = append(all, randomDecs(1, 60, 40)...)
	return append(all, randomDecs(2, 60, 8)...)
}

// wrong is decimals that are not valid.
func wrong() []api.Dec {
	long := repeat("7", 100000)
	return []api.Dec{
		{}, {Frac: "5"}, {Neg: true}, {Neg: true, Frac: "0"},
		{Int: "00"}, {Int: "01"}, {Int: "007", Frac: "5"}, {Neg: true, Int: "01"}, {Int: "0" + repeat("9", 39)},
		{Neg: true, Int: "0"}, {Neg: true, Int: "0", Frac: "0"}, {Neg: true, Int: "0", Frac: repeat("0", 39)}, {Neg: true, Int: "00"},
		{Int: "a"}, {Int: "1a"}, {Int: "a1"}, {Int: "1", Frac: "a"}, {Int: "1", Frac: "1a"}, {Int: "1", Frac: "a1"}, {Int: "0x1"}, {Int: "1e1"},
		{Int: "-1"}, {Int: "+1"}, {Int: "1.5"}, {Int: "1."}, {Int: "."}, {Int: "1", Frac: "."}, {Int: "1", Frac: ".5"}, {Int: "1", Frac: "-5"}, {Int: "1,000"},
		{Int: " 1"}, {Int: "1 "}, {Int: "1", Frac: " "}, {Int: "1\n"}, {Int: "1", Frac: "5\n"}, {Int: "1\x00"}, {Int: "\x00"}, {Int: "/"}, {Int: ":"}, {Int: "1", Frac: "/"}, {Int: "1", Frac: ":"},
		{Int: "\u0661"}, {Int: "1", Frac: "\uff11"}, {Int: "\xff"}, {Int: "1", Frac: "\xb1"}, {Int: "1\xff"},
		{Int: repeat("9", 41)}, {Int: "1", Frac: repeat("0", 40)}, {Int: "0", Frac: repeat("0", 40)}, {Int: "0", Frac: repeat("1", 40)}, {Int: repeat("1", 40), Frac: "0"}, {Int: repeat("1", 20), Frac: repeat("1", 21)},
		{Int: long}, {Int: "1", Frac: long}, {Int: long, Frac: long}, {Neg: true, Int: "0", Frac: repeat("0", 100000)},
	}
}

// TestSamples: the samples are what the tests take them for.
func TestSamples(t *testing.T) {
	for _, d := range samples() {
		if !isValid(d) || dec(textOf(d)) != d {
			t.Errorf("a sample that is not valid: %v", d)
		}
	}
	for _, d := range wrong() {
		if isValid(d) {
			t.Errorf("a wrong sample that is valid: %v", d)
		}
	}
}
