package round_test

import (
	"math/big"
	"math/rand"
	"regexp"
	"strings"
	"testing"

	"idiom/api"
)

// What the tests hold the program against is worked out here by package math/big, without the program.

// modes is all modes, by their numbers in package api.
var modes = []int{api.RoundUp, api.RoundDown, api.RoundCeiling, api.RoundFloor, api.RoundHalfUp, api.RoundHalfDown, api.RoundHalfEven, api.RoundNone}

// dec takes a text apart, whatever it is.
func dec(text string) api.Dec {
	var d api.Dec
	text, d.Neg = strings.CutPrefix(text, "-")
	d.Int, d.Frac, _ = strings.Cut(text, ".")
	return d
}

// textOf puts together what dec takes apart.
func textOf(d api.Dec) string {
	text := d.Int
	if d.Frac != "" {
		text += "." + d.Frac
	}
	if d.Neg {
		text = "-" + text
	}
	return text
}

var (
	form     = regexp.MustCompile(`^-?(0|[1-9][0-9]*)(\.[0-9]+)?$`)
	zeroForm = regexp.MustCompile(`^-?[0.]*$`)
)

func isZero(d api.Dec) bool {
	return zeroForm.MatchString(textOf(d))
}

func isValid(d api.Dec) bool {
	return form.MatchString(textOf(d)) && dec(textOf(d)) == d && len(d.Int+d.Frac) <= 40 && !(d.Neg && isZero(d))
}

func repeat(s string, n int) string {
	return strings.Repeat(s, n)
}

// tenTo is ten to a power that is not below 0.
func tenTo(power int) *big.Int {
	return new(big.Int).Exp(big.NewInt(10), big.NewInt(int64(power)), nil)
}

// unscaled is d times ten to a power that is not below its scale.
func unscaled(d api.Dec, scale int) *big.Int {
	n, ok := new(big.Int).SetString(d.Int+d.Frac, 10)
	if !ok {
		panic("no decimal: " + textOf(d))
	}
	if d.Neg {
		n.Neg(n)
	}
	return n.Mul(n, tenTo(scale-len(d.Frac)))
}

// valueOf is the value of d.
func valueOf(d api.Dec) *big.Rat {
	return new(big.Rat).SetFrac(unscaled(d, len(d.Frac)), tenTo(len(d.Frac)))
}

// written is n divided by ten to the scale, however long.
func written(n *big.Int, scale int) api.Dec {
	digits := new(big.Int).Abs(n).String()
	if missing := scale + 1 - len(digits); missing > 0 {
		digits = repeat("0", missing) + digits
	}
	point := len(digits) - scale
	return api.Dec{Neg: n.Sign() < 0, Int: digits[:point], Frac: digits[point:]}
}

// bounded is d, or ErrBound if it has too many digits.
func bounded(d api.Dec) (api.Dec, api.Errno) {
	if len(d.Int+d.Frac) > 40 {
		return api.Dec{}, api.ErrBound
	}
	return d, api.OK
}

// wantMultiple rounds d to multiples of unit, by the definition of the modes: of the two multipliers beside d, the lower and the upper one, one is taken. The result may be too long.
func wantMultiple(d api.Dec, mode int, unit api.Dec) (api.Dec, api.Errno) {
	scale := max(len(d.Frac), len(unit.Frac))
	n, u := unscaled(d, scale), unscaled(unit, scale)
	lower, rest := new(big.Int).DivMod(n, u, new(big.Int))
	upper := new(big.Int).Add(lower, big.NewInt(1))
	outer, inner, even := upper, lower, upper
	if n.Sign() < 0 {
		outer, inner = lower, upper
	}
	if lower.Bit(0) == 0 {
		even = lower
	}
	nearer := upper
	half := new(big.Int).Lsh(rest, 1).Cmp(u)
	if half < 0 {
		nearer = lower
	}
	taken := map[int]*big.Int{api.RoundUp: outer, api.RoundDown: inner, api.RoundCeiling: upper, api.RoundFloor: lower, api.RoundHalfUp: nearer, api.RoundHalfDown: nearer, api.RoundHalfEven: nearer}
	if half == 0 {
		taken[api.RoundHalfUp], taken[api.RoundHalfDown], taken[api.RoundHalfEven] = outer, inner, even
	}
	times := taken[mode]
	if rest.Sign() == 0 {
		times = lower
	} else if mode == api.RoundNone {
		return api.Dec{}, api.ErrInexact
	}
	return written(new(big.Int).Mul(times, unscaled(unit, len(unit.Frac))), len(unit.Frac)), api.OK
}

// unitOf is ten to a power.
func unitOf(power int) api.Dec {
	return written(tenTo(max(power, 0)), max(-power, 0))
}

func wantPlaces(d api.Dec, mode, most int) (api.Dec, api.Errno) {
	if len(d.Frac) <= most {
		return d, api.OK
	}
	return wantMultiple(d, mode, unitOf(-most))
}

func wantFix(d api.Dec, mode, least, most int) (api.Dec, api.Errno) {
	d, e := wantPlaces(d, mode, most)
	if e != api.OK {
		return d, e
	}
	for len(d.Frac) > least && strings.HasSuffix(d.Frac, "0") {
		d.Frac = d.Frac[:len(d.Frac)-1]
	}
	for len(d.Frac) < least {
		d.Frac += "0"
	}
	return bounded(d)
}

// significant is how many significant digits d has.
func significant(d api.Dec) int {
	if isZero(d) {
		return len(d.Int + d.Frac)
	}
	return len(strings.TrimLeft(d.Int+d.Frac, "0"))
}

func wantSignificant(d api.Dec, mode, least, most int) (api.Dec, api.Errno) {
	if excess := significant(d) - most; !isZero(d) && excess > 0 {
		rounded, e := wantMultiple(d, mode, unitOf(excess-len(d.Frac)))
		if e != api.OK {
			return rounded, e
		}
		d = rounded
	}
	for significant(d) > least && strings.HasSuffix(d.Frac, "0") {
		d.Frac = d.Frac[:len(d.Frac)-1]
	}
	for significant(d) < least {
		d.Frac += "0"
	}
	return bounded(d)
}

func wantStep(d api.Dec, mode int, step api.Dec) (api.Dec, api.Errno) {
	d, e := wantMultiple(d, mode, step)
	if e != api.OK {
		return d, e
	}
	return bounded(d)
}

// small is short decimals, each with and without a sign and by many scales: among them halves of units, and what is right beside them.
func small() []api.Dec {
	var all []api.Dec
	for _, whole := range []string{"0", "1", "2", "5", "9", "10", "15", "25", "99", "150", "1234"} {
		for _, frac := range []string{"", "0", "00", "000", "1", "4", "5", "6", "9", "05", "15", "25", "49", "50", "51", "75", "95", "99", "005", "050", "250", "500", "995", "0999", "5001", "4999"} {
			for _, neg := range []bool{false, true} {
				if d := (api.Dec{Neg: neg, Int: whole, Frac: frac}); isValid(d) {
					all = append(all, d)
				}
			}
		}
	}
	return all
}

// edges is decimals of 40 digits or nearly as many.
func edges() []api.Dec {
	all := []api.Dec{dec("0." + repeat("0", 39)), dec("0." + repeat("0", 20))}
	for _, text := range []string{
		repeat("9", 40), repeat("9", 39), "1" + repeat("0", 39), "5" + repeat("0", 39), "4" + repeat("9", 39), "5" + repeat("0", 38) + "1", "25" + repeat("0", 38), "15" + repeat("0", 38),
		"0." + repeat("9", 39), "0." + repeat("0", 38) + "1", "0." + repeat("0", 38) + "5", "0." + repeat("0", 37) + "15", "0.5" + repeat("0", 38), "0.5" + repeat("0", 37) + "1", "0.4" + repeat("9", 38),
		"9." + repeat("9", 39), "1." + repeat("0", 39), "1." + repeat("0", 38) + "1", "2.5" + repeat("0", 38), "2.5" + repeat("0", 37) + "1", "2.4" + repeat("9", 38),
		repeat("9", 20) + "." + repeat("9", 20), "1" + repeat("0", 19) + ".5" + repeat("0", 19), repeat("9", 39) + ".9", repeat("9", 39) + ".5", repeat("9", 39) + ".0", "1" + repeat("0", 38) + ".5",
		repeat("12345678", 5), repeat("87654321", 3) + "." + repeat("24680", 3), "0." + repeat("135", 13), "9223372036854775807.5", "18446744073709551615.5",
	} {
		all = append(all, dec(text), dec("-"+text))
	}
	return all
}

// randomDecs is valid decimals of at most so many digits, many of them nines, zeros and fives, by a fixed seed.
func randomDecs(seed int64, n, most int) []api.Dec {
	random := rand.New(rand.NewSource(seed))
	var all []api.Dec
	for len(all) < n {
		digits := make([]byte, 1+random.Intn(most))
		for at := range digits {
			digits[at] = "01234567890005559999"[random.Intn(20)]
		}
		point := 1 + random.Intn(len(digits))
		if d := (api.Dec{Neg: random.Intn(2) == 0, Int: string(digits[:point]), Frac: string(digits[point:])}); isValid(d) {
			all = append(all, d)
		}
	}
	return all
}

// samples is all of these.
func samples() []api.Dec {
	all := append(small(), edges()...)
	all = append(all, randomDecs(1, 60, 40)...)
	return append(all, randomDecs(2, 60, 8)...)
}

// steps is decimals above 0.
func steps() []api.Dec {
	var all []api.Dec
	for _, text := range []string{
		"1", "1.0", "1.00", "2", "3", "5", "7", "10", "25", "100", "0.1", "0.10", "0.2", "0.5", "0.50", "0.05", "0.25", "0.3", "0.01", "0.002", "0.005", "2.5", "1.5", "12.50",
		repeat("9", 40), "1" + repeat("0", 39), "2" + repeat("0", 39), "5" + repeat("0", 39), "6" + repeat("0", 39), "3" + repeat("0", 38), "4" + repeat("9", 38) + "8",
		"0." + repeat("0", 38) + "1", "0." + repeat("0", 38) + "2", "0." + repeat("0", 38) + "3", "0." + repeat("3", 39), "0.5" + repeat("0", 38),
		"9." + repeat("9", 39), "5." + repeat("0", 39), "1." + repeat("0", 39), "1." + repeat("0", 38) + "1", "1" + repeat("0", 20) + "." + repeat("0", 18) + "1",
	} {
		all = append(all, dec(text))
	}
	for _, d := range randomDecs(3, 20, 20) {
		if !d.Neg && !isZero(d) {
			all = append(all, d)
		}
	}
	return all
}

// wrong is decimals that are not valid.
func wrong() []api.Dec {
	long := repeat("7", 100000)
	return []api.Dec{
		{}, {Frac: "5"}, {Neg: true}, {Int: "00"}, {Int: "01", Frac: "5"}, {Neg: true, Int: "0"}, {Neg: true, Int: "0", Frac: "00"},
		{Int: "a"}, {Int: "1", Frac: "a"}, {Int: "-1"}, {Int: "+1"}, {Int: "1.5"}, {Int: "1", Frac: "."}, {Int: "1", Frac: "-5"}, {Int: " 1"}, {Int: "1", Frac: "5\n"}, {Int: "\u0661"}, {Int: "1", Frac: "\xff"},
		{Int: repeat("9", 41)}, {Int: "1", Frac: repeat("0", 40)}, {Int: "0", Frac: repeat("0", 40)}, {Int: repeat("1", 20), Frac: repeat("1", 21)},
		{Int: long}, {Int: "1", Frac: long}, {Int: long, Frac: long}, {Neg: true, Int: "0", Frac: repeat("0", 100000)},
	}
}

// TestSamples: the samples are what the tests take them for.
func TestSamples(t *testing.T) {
	for _, d := range append(samples(), steps()...) {
		if !isValid(d) {
			t.Errorf("a sample that is not valid: %v", d)
		}
	}
	for _, d := range wrong() {
		if isValid(d) {
			t.Errorf("a sample that is valid: %v", d)
		}
	}
}

// result is what a call answers.
type result struct {
	d api.Dec
	e api.Errno
}

func answer(d api.Dec, e api.Errno) result {
	return result{d, e}
}

// expected is the answer that a text stands for: a decimal, or the name of an error.
func expected(text string) result {
	switch text {
	case "inexact":
		return result{e: api.ErrInexact}
	case "bound":
		return result{e: api.ErrBound}
	}
	return result{d: dec(text)}
}

func (r result) String() string {
	switch r.e {
	case api.OK:
		return textOf(r.d)
	case api.ErrInexact:
		return "inexact"
	case api.ErrBound:
		return "bound"
	}
	return "another error beside " + textOf(r.d)
}
