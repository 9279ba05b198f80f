package decimal_test

import (
	"math/big"
	"testing"

	"idiom/api"
	"idiom/decimal"
)

type binary func(a, b api.Dec) (api.Dec, api.Errno)

func wantAdd(a, b api.Dec) (api.Dec, api.Errno) {
	scale := larger(a, b)
	return written(new(big.Int).Add(unscaled(a, scale), unscaled(b, scale)), scale)
}

func wantSub(a, b api.Dec) (api.Dec, api.Errno) {
	scale := larger(a, b)
	return written(new(big.Int).Sub(unscaled(a, scale), unscaled(b, scale)), scale)
}

func wantMul(a, b api.Dec) (api.Dec, api.Errno) {
	return written(new(big.Int).Mul(unscaled(a, len(a.Frac)), unscaled(b, len(b.Frac))), len(a.Frac)+len(b.Frac))
}

func wantDiv(a, b api.Dec) (api.Dec, api.Errno) {
	if isZero(b) {
		return api.Dec{}, api.ErrZero
	}
	scale := larger(a, b)
	return written(new(big.Int).Quo(unscaled(a, scale), unscaled(b, scale)), 0)
}

func wantRem(a, b api.Dec) (api.Dec, api.Errno) {
	if isZero(b) {
		return api.Dec{}, api.ErrZero
	}
	scale := larger(a, b)
	return written(new(big.Int).Rem(unscaled(a, scale), unscaled(b, scale)), scale)
}

// operations is the calls on two decimals that answer one, with what they must answer for valid ones.
var operations = []struct {
	name       string
	call, want binary
}{
	{"Add", decimal.Add, wantAdd},
	{"Sub", decimal.Sub, wantSub},
	{"Mul", decimal.Mul, wantMul},
	{"Div", decimal.Div, wantDiv},
	{"Rem", decimal.Rem, wantRem},
}

// example is the operands of a call and what it answers, in texts.
type example struct {
	a, b, want string
	errno      api.Errno
}

func (x example) hold(t *testing.T, name string, call binary) {
	t.Helper()
	var want api.Dec
	if x.errno == api.OK {
		want = dec(x.want)
	}
	if got, e := call(dec(x.a), dec(x.b)); got != want || e != x.errno {
		t.Errorf("%s(%s, %s): %q %d, want %q %d", name, x.a, x.b, textOf(got), e, x.want, x.errno)
	}
}

// TestCompare: P2.4.
func TestCompare(t *testing.T) {
	for _, x := range []struct {
		a, b string
		want int
	}{
		{"1", "1.00", 0}, {"1.00", "1", 0}, {"0", "0.000", 0}, {"-1.5", "-1.50", 0}, {"10", "10", 0},
		{"1", "2", -1}, {"2", "1", 1}, {"9", "10", -1}, {"10", "9", 1}, {"1.5", "1.45", 1}, {"1.05", "1.5", -1}, {"0.9", "1", -1},
		{"-1", "1", -1}, {"1", "-1", 1}, {"-2", "-1", -1}, {"-1", "-2", 1}, {"-9", "-10", 1}, {"-0.1", "0", -1}, {"0", "-0.1", 1}, {"0.0", "0.01", -1},
		{repeat("9", 40), "0." + repeat("0", 38) + "1", 1}, {"0." + repeat("0", 38) + "1", repeat("9", 40), -1}, {"-" + repeat("9", 40), "-0." + repeat("9", 39), -1},
		{repeat("9", 40), repeat("9", 39) + "8", 1}, {"0." + repeat("9", 38) + "8", "0." + repeat("9", 39), -1},
	} {
		if got, e := decimal.Compare(dec(x.a), dec(x.b)); got != x.want || e != api.OK {
			t.Errorf("Compare(%s, %s): %d %d, want %d", x.a, x.b, got, e, x.want)
		}
	}
	all := samples()
	for _, a := range all {
		for _, b := range all {
			want := unscaled(a, larger(a, b)).Cmp(unscaled(b, larger(a, b)))
			if got, e := decimal.Compare(a, b); got != want || e != api.OK {
				t.Errorf("Compare(%s, %s): %d %d, want %d", textOf(a), textOf(b), got, e, want)
			}
		}
	}
}

// TestAdd: P2.5.
func TestAdd(t *testing.T) {
	nines, tiny := repeat("9", 40), "0."+repeat("0", 38)+"1"
	for _, x := range []example{
		{"1.0", "0.05", "1.05", api.OK}, {"0", "0", "0", api.OK}, {"0.00", "0", "0.00", api.OK}, {"1", "2", "3", api.OK}, {"5", "5", "10", api.OK}, {"99", "1", "100", api.OK}, {"999", "999", "1998", api.OK},
		{"0.95", "0.05", "1.00", api.OK}, {"9.9", "0.1", "10.0", api.OK}, {"1.5", "-1.50", "0.00", api.OK}, {"-1.5", "1.5", "0.0", api.OK}, {"-1", "-2", "-3", api.OK}, {"-1", "3", "2", api.OK}, {"1", "-3", "-2", api.OK}, {"100", "-0.01", "99.99", api.OK}, {"-100", "0.01", "-99.99", api.OK},
		{nines, "0", nines, api.OK}, {nines, "-1", repeat("9", 39) + "8", api.OK}, {nines, "1", "", api.ErrBound}, {nines, nines, "", api.ErrBound}, {"-" + nines, "-1", "", api.ErrBound}, {nines, "-" + nines, "0", api.OK},
		{nines, "0.0", "", api.ErrBound}, {nines, tiny, "", api.ErrBound}, {"1", tiny, "1." + repeat("0", 38) + "1", api.OK}, {"10", tiny, "", api.ErrBound}, {"9." + repeat("9", 39), tiny, "", api.ErrBound}, {"0." + repeat("9", 39), tiny, "1." + repeat("0", 39), api.OK},
		{"5" + repeat("0", 39), "4" + repeat("9", 39), nines, api.OK}, {"5" + repeat("0", 39), "5" + repeat("0", 39), "", api.ErrBound},
	} {
		x.hold(t, "Add", decimal.Add)
	}
}

// TestSub: P2.5.
func TestSub(t *testing.T) {
	nines, tiny := repeat("9", 40), "0."+repeat("0", 38)+"1"
	for _, x := range []example{
		{"1.50", "1.5", "0.00", api.OK}, {"1.5", "1.50", "0.00", api.OK}, {"-1.50", "-1.5", "0.00", api.OK}, {"0", "0.0", "0.0", api.OK}, {"0", "0", "0", api.OK},
		{"3", "1", "2", api.OK}, {"1", "3", "-2", api.OK}, {"0", "1", "-1", api.OK}, {"0", "-1", "1", api.OK}, {"1", "0", "1", api.OK}, {"-1", "0", "-1", api.OK}, {"-1", "0.00", "-1.00", api.OK}, {"-1", "-3", "2", api.OK}, {"-3", "-1", "-2", api.OK}, {"1", "-1", "2", api.OK}, {"-1", "1", "-2", api.OK},
		{"100", "0.01", "99.99", api.OK}, {"1000", "1", "999", api.OK}, {"0.1", "0.09", "0.01", api.OK}, {"10", "9.5", "0.5", api.OK},
		{nines, nines, "0", api.OK}, {nines, "-1", "", api.ErrBound}, {"-" + nines, "1", "", api.ErrBound}, {"-" + nines, "-1", "-" + repeat("9", 39) + "8", api.OK}, {nines, "0.0", "", api.ErrBound},
		{"1" + repeat("0", 39), "0.5", repeat("9", 39) + ".5", api.OK}, {"1" + repeat("0", 39), "0.50", "", api.ErrBound}, {"1" + repeat("0", 38) + "1", "0.5", "", api.ErrBound}, {"1", tiny, "0." + repeat("9", 39), api.OK}, {"10", tiny, "9." + repeat("9", 39), api.OK}, {"11", tiny, "", api.ErrBound}, {"0", tiny, "-" + tiny, api.OK},
	} {
		x.hold(t, "Sub", decimal.Sub)
	}
}

// TestMul: P2.6.
func TestMul(t *testing.T) {
	nines := repeat("9", 40)
	for _, x := range []example{
		{"1.20", "0.5", "0.600", api.OK}, {"2", "3", "6", api.OK}, {"99", "99", "9801", api.OK}, {"-2", "3", "-6", api.OK}, {"2", "-3", "-6", api.OK}, {"-2", "-3", "6", api.OK}, {"0", "5", "0", api.OK}, {"-5", "0", "0", api.OK}, {"0", "-5.0", "0.0", api.OK}, {"0.00", "0.0", "0.000", api.OK}, {"0.01", "0.01", "0.0001", api.OK}, {"1.0", "1.0", "1.00", api.OK}, {"0.5", "20", "10.0", api.OK},
		{nines, "1", nines, api.OK}, {nines, "2", "", api.ErrBound}, {nines, nines, "", api.ErrBound}, {nines, "0", "0", api.OK}, {nines, "1.0", "", api.ErrBound}, {nines, "0.1", repeat("9", 39) + ".9", api.OK}, {nines, "0.10", "", api.ErrBound}, {nines, "0.0", "0.0", api.OK}, {"5" + repeat("0", 39), "2", "", api.ErrBound}, {"4" + repeat("9", 39), "2", repeat("9", 39) + "8", api.OK},
		{repeat("9", 20), repeat("9", 20), repeat("9", 19) + "8" + repeat("0", 19) + "1", api.OK}, {repeat("9", 21), repeat("9", 20), "", api.ErrBound},
		{"0." + repeat("0", 19), "0." + repeat("0", 20), "0." + repeat("0", 39), api.OK}, {"0." + repeat("0", 20), "0." + repeat("0", 20), "", api.ErrBound}, {"0", "0." + repeat("0", 39), "0." + repeat("0", 39), api.OK}, {"0.0", "0." + repeat("0", 39), "", api.ErrBound},
		{"0." + repeat("0", 18) + "1", "0." + repeat("0", 19) + "1", "0." + repeat("0", 38) + "1", api.OK}, {"0." + repeat("0", 19) + "1", "0." + repeat("0", 19) + "1", "", api.ErrBound}, {"0." + repeat("9", 39), "0." + repeat("9", 39), "", api.ErrBound},
	} {
		x.hold(t, "Mul", decimal.Mul)
	}
}

// TestDiv: P2.7.
func TestDiv(t *testing.T) {
	nines, tiny := repeat("9", 40), "0."+repeat("0", 38)+"1"
	for _, x := range []example{
		{"-7.5", "2", "-3", api.OK}, {"1", "3", "0", api.OK}, {"-1", "3", "0", api.OK}, {"1", "-3", "0", api.OK}, {"7", "2", "3", api.OK}, {"7", "-2", "-3", api.OK}, {"-7", "-2", "3", api.OK}, {"6", "2", "3", api.OK}, {"6.00", "0.2", "30", api.OK}, {"0.5", "0.25", "2", api.OK}, {"0.49", "0.25", "1", api.OK}, {"99.99", "0.01", "9999", api.OK}, {"100", "9.99", "10", api.OK}, {"0", "5", "0", api.OK}, {"0.00", "-5", "0", api.OK}, {"1000", "10", "100", api.OK},
		{"1", "0.0", "", api.ErrZero}, {"1", "0", "", api.ErrZero}, {"0", "0", "", api.ErrZero}, {"-1", "0.00", "", api.ErrZero}, {nines, "0." + repeat("0", 39), "", api.ErrZero},
		{nines, "1", nines, api.OK}, {nines, "0.1", "", api.ErrBound}, {"1" + repeat("0", 39), "0.1", "", api.ErrBound}, {"1" + repeat("0", 38), "0.1", "1" + repeat("0", 39), api.OK}, {nines, tiny, "", api.ErrBound}, {"-1", tiny, "-1" + repeat("0", 39), api.OK}, {"10", tiny, "", api.ErrBound}, {tiny, nines, "0", api.OK}, {nines, nines, "1", api.OK}, {nines, "1" + repeat("0", 39), "9", api.OK}, {nines, repeat("9", 20), "1" + repeat("0", 19) + "1", api.OK}, {nines, "0.99", "", api.ErrBound},
	} {
		x.hold(t, "Div", decimal.Div)
	}
}

// TestRem: P2.7.
func TestRem(t *testing.T) {
	nines, tiny := repeat("9", 40), "0."+repeat("0", 38)+"1"
	for _, x := range []example{
		{"-7.5", "2", "-1.5", api.OK}, {"1", "0.30", "0.10", api.OK}, {"7", "2", "1", api.OK}, {"7", "-2", "1", api.OK}, {"-7", "2", "-1", api.OK}, {"-7", "-2", "-1", api.OK}, {"6", "2", "0", api.OK}, {"-6", "2", "0", api.OK}, {"-6.0", "2.00", "0.00", api.OK}, {"21.5", "10", "1.5", api.OK}, {"1", "3", "1", api.OK}, {"-1", "3.00", "-1.00", api.OK}, {"0", "5", "0", api.OK}, {"0.0", "-5", "0.0", api.OK}, {"100", "9.99", "0.10", api.OK},
		{"1", "0.0", "", api.ErrZero}, {"1", "0", "", api.ErrZero}, {"0", "0.00", "", api.ErrZero}, {"-1", "0", "", api.ErrZero},
		{nines, tiny, "0." + repeat("0", 39), api.OK}, {nines, "0.7", "0.2", api.OK}, {nines, "0.8", "0.6", api.OK}, {"1" + repeat("0", 39), "0." + repeat("0", 38) + "3", "0." + repeat("0", 38) + "1", api.OK}, {tiny, nines, tiny, api.OK}, {"-" + tiny, nines, "-" + tiny, api.OK}, {nines, nines, "0", api.OK}, {nines, "1" + repeat("0", 39), repeat("9", 39), api.OK},
	} {
		x.hold(t, "Rem", decimal.Rem)
	}
}

// TestOperations holds all pairs of samples against math/big: P2.5 to P2.7.
func TestOperations(t *testing.T) {
	all := samples()
	for _, x := range operations {
		results, errors := 0, 0
		for _, a := range all {
			for _, b := range all {
				want, wantErrno := x.want(a, b)
				got, e := x.call(a, b)
				if got != want || e != wantErrno {
					t.Errorf("%s(%s, %s): %q %d, want %q %d", x.name, textOf(a), textOf(b), textOf(got), e, textOf(want), wantErrno)
				}
				if e == api.OK {
					results++
				} else {
					errors++
				}
			}
		}
		if results < 10000 || errors < 1000 {
			t.Errorf("%s: %d results, %d errors", x.name, results, errors)
		}
	}
}

// TestRemIsNeverTooLong: the samples, and the longest operands, in all scales.
func TestRemIsNeverTooLong(t *testing.T) {
	var long []api.Dec
	for whole := 1; whole <= 40; whole++ {
		for _, digit := range []string{"1", "7", "9"} {
			long = append(long, api.Dec{Int: repeat(digit, whole), Frac: repeat(digit, 40-whole)})
		}
	}
	for _, a := range long {
		for _, b := range long {
			want, _ := wantRem(a, b)
			if got, e := decimal.Rem(a, b); got != want || e != api.OK {
				t.Errorf("Rem(%s, %s): %q %d, want %q", textOf(a), textOf(b), textOf(got), e, textOf(want))
			}
		}
	}
}
