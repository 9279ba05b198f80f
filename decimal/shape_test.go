package decimal_test

import (
	"math"
	"math/big"
	"strconv"
	"testing"

	"idiom/api"
	"idiom/decimal"
)

// beyond is numbers that are out of every range of places or powers from -40 or 0 to 40.
var beyond = []int{41, -41, 42, -42, 80, -80, 1000, -1000, math.MaxInt32, math.MinInt32, math.MaxInt, math.MinInt, math.MaxInt - 1, math.MinInt + 1, 1 << 32, -(1 << 32), 1<<32 + 1, 1 << 62, -(1 << 62)}

// TestTrim: P2.8.
func TestTrim(t *testing.T) {
	for text, want := range map[string]string{
		"10.00": "10", "10": "10", "100": "100", "0": "0", "0.0": "0", "0." + repeat("0", 39): "0", "1.0": "1", "1.50": "1.5", "1.5": "1.5", "-1.50": "-1.5", "-20.00": "-20", "0.05": "0.05", "0.0500": "0.05", "1.010": "1.01", "1.0010": "1.001", "1." + repeat("0", 38) + "1": "1." + repeat("0", 38) + "1", "-7." + repeat("0", 39): "-7", repeat("90", 20): repeat("90", 20),
	} {
		if got, e := decimal.Trim(dec(text)); got != dec(want) || e != api.OK {
			t.Errorf("Trim(%s): %q %d, want %q", text, textOf(got), e, want)
		}
	}
	for _, d := range samples() {
		want := d
		for want.Frac != "" && want.Frac[len(want.Frac)-1] == '0' {
			want.Frac = want.Frac[:len(want.Frac)-1]
		}
		if got, e := decimal.Trim(d); got != want || e != api.OK {
			t.Errorf("Trim(%s): %q %d, want %q", textOf(d), textOf(got), e, textOf(want))
		}
	}
}

// TestPad: P2.8.
func TestPad(t *testing.T) {
	nines := repeat("9", 40)
	for _, x := range []struct {
		d      string
		places int
		want   string
		errno  api.Errno
	}{
		{"1.5", 3, "1.500", api.OK}, {"1.5", 1, "1.5", api.OK}, {"1.5", 0, "1.5", api.OK}, {"1.50", 1, "1.50", api.OK}, {"7", 0, "7", api.OK}, {"7", 2, "7.00", api.OK}, {"-7", 2, "-7.00", api.OK}, {"0", 3, "0.000", api.OK}, {"0.0", 2, "0.00", api.OK}, {"100", 1, "100.0", api.OK},
		{"1", 39, "1." + repeat("0", 39), api.OK}, {"1", 40, "", api.ErrBound}, {"0", 39, "0." + repeat("0", 39), api.OK}, {"0", 40, "", api.ErrBound}, {"10", 38, "10." + repeat("0", 38), api.OK}, {"10", 39, "", api.ErrBound},
		{nines, 0, nines, api.OK}, {nines, 1, "", api.ErrBound}, {nines, 40, "", api.ErrBound}, {"1." + repeat("1", 39), 39, "1." + repeat("1", 39), api.OK}, {"1." + repeat("1", 39), 40, "", api.ErrBound}, {"1." + repeat("1", 39), 5, "1." + repeat("1", 39), api.OK},
		{"1.5", -1, "", api.ErrArg}, {"1.5", 41, "", api.ErrArg}, {nines, 41, "", api.ErrArg}, {nines, -1, "", api.ErrArg},
	} {
		var want api.Dec
		if x.errno == api.OK {
			want = dec(x.want)
		}
		if got, e := decimal.Pad(dec(x.d), x.places); got != want || e != x.errno {
			t.Errorf("Pad(%s, %d): %q %d, want %q %d", x.d, x.places, textOf(got), e, x.want, x.errno)
		}
	}
	for _, d := range samples() {
		for places := 0; places <= 40; places++ {
			scale := max(places, len(d.Frac))
			want, wantErrno := written(unscaled(d, scale), scale)
			if got, e := decimal.Pad(d, places); got != want || e != wantErrno {
				t.Errorf("Pad(%s, %d): %q %d, want %q %d", textOf(d), places, textOf(got), e, textOf(want), wantErrno)
			}
		}
	}
}

// TestShift: P2.9.
func TestShift(t *testing.T) {
	nines := repeat("9", 40)
	for _, x := range []struct {
		d     string
		power int
		want  string
		errno api.Errno
	}{
		{"1.25", 1, "12.5", api.OK}, {"1.25", 2, "125", api.OK}, {"1.25", 3, "1250", api.OK}, {"1.25", 0, "1.25", api.OK}, {"1.25", -1, "0.125", api.OK}, {"1.25", -2, "0.0125", api.OK}, {"125", -2, "1.25", api.OK}, {"-125", -2, "-1.25", api.OK}, {"5", -3, "0.005", api.OK}, {"-5", 2, "-500", api.OK}, {"1.00", 1, "10.0", api.OK}, {"1.00", 2, "100", api.OK}, {"1.00", 3, "1000", api.OK}, {"0.05", 1, "0.5", api.OK}, {"0.05", 2, "5", api.OK}, {"0.05", 3, "50", api.OK}, {"0.005", 1, "0.05", api.OK}, {"100", -2, "1.00", api.OK}, {"100", -3, "0.100", api.OK}, {"1.2", 6, "1200000", api.OK},
		{"0", 5, "0", api.OK}, {"0", 40, "0", api.OK}, {"0.00", 1, "0.0", api.OK}, {"0.00", 2, "0", api.OK}, {"0.00", 3, "0", api.OK}, {"0", -3, "0.000", api.OK}, {"0.0", -1, "0.00", api.OK}, {"0", -39, "0." + repeat("0", 39), api.OK}, {"0", -40, "", api.ErrBound}, {"0." + repeat("0", 39), -1, "", api.ErrBound}, {"0." + repeat("0", 39), 40, "0", api.OK},
		{"1", 39, "1" + repeat("0", 39), api.OK}, {"1", 40, "", api.ErrBound}, {"1", -39, "0." + repeat("0", 38) + "1", api.OK}, {"1", -40, "", api.ErrBound}, {"0." + repeat("0", 38) + "1", 40, "10", api.OK}, {"0." + repeat("0", 38) + "1", 39, "1", api.OK}, {nines, 0, nines, api.OK}, {nines, 1, "", api.ErrBound}, {nines, -39, "9." + repeat("9", 39), api.OK}, {nines, -40, "", api.ErrBound}, {"9." + repeat("9", 39), 39, nines, api.OK}, {"9." + repeat("9", 39), 40, "", api.ErrBound}, {"-" + nines, -1, "-" + repeat("9", 39) + ".9", api.OK},
		{"1", 41, "", api.ErrArg}, {"1", -41, "", api.ErrArg}, {"0", 41, "", api.ErrArg}, {nines, 41, "", api.ErrArg},
	} {
		var want api.Dec
		if x.errno == api.OK {
			want = dec(x.want)
		}
		if got, e := decimal.Shift(dec(x.d), x.power); got != want || e != x.errno {
			t.Errorf("Shift(%s, %d): %q %d, want %q %d", x.d, x.power, textOf(got), e, x.want, x.errno)
		}
	}
	for _, d := range samples() {
		for power := -40; power <= 40; power++ {
			want, wantErrno := wantShift(d, power)
			if got, e := decimal.Shift(d, power); got != want || e != wantErrno {
				t.Errorf("Shift(%s, %d): %q %d, want %q %d", textOf(d), power, textOf(got), e, textOf(want), wantErrno)
			}
		}
	}
}

func wantShift(d api.Dec, power int) (api.Dec, api.Errno) {
	scale := len(d.Frac) - power
	n := unscaled(d, len(d.Frac))
	if scale < 0 {
		n.Mul(n, new(big.Int).Exp(big.NewInt(10), big.NewInt(int64(-scale)), nil))
		scale = 0
	}
	return written(n, scale)
}

// TestRanges: places and powers that are out of range, for any valid decimal.
func TestRanges(t *testing.T) {
	for _, d := range samples() {
		for _, n := range beyond {
			if got, e := decimal.Pad(d, n); got != (api.Dec{}) || e != api.ErrArg {
				t.Errorf("Pad(%s, %d): %v %d", textOf(d), n, got, e)
			}
			if got, e := decimal.Shift(d, n); got != (api.Dec{}) || e != api.ErrArg {
				t.Errorf("Shift(%s, %d): %v %d", textOf(d), n, got, e)
			}
		}
		for n := -40; n < 0; n++ {
			if got, e := decimal.Pad(d, n); got != (api.Dec{}) || e != api.ErrArg {
				t.Errorf("Pad(%s, %d): %v %d", textOf(d), n, got, e)
			}
		}
	}
}

// integers is small ones, the powers of two and of ten with what is around them, and the ends of the range.
func integers() []int64 {
	var all []int64
	for n := int64(-1100); n <= 1100; n++ {
		all = append(all, n)
	}
	for bit := range 64 {
		for around := int64(-2); around <= 2; around++ {
			n := int64(1)<<bit + around // wraps round at the ends, to other ends
			all = append(all, n, -n)
		}
	}
	for power, n := 0, int64(1); power <= 18; power, n = power+1, n*10 {
		all = append(all, n-1, n, n+1, -n-1, -n, -n+1, 9*(n/10), -9*(n/10))
	}
	return append(all, math.MinInt64, math.MinInt64+1, math.MaxInt64, math.MaxInt64-1)
}

// TestOf: P2.10.
func TestOf(t *testing.T) {
	if got, want := decimal.Of(-9223372036854775808), (api.Dec{Neg: true, Int: "9223372036854775808"}); got != want {
		t.Errorf("Of the least: %v", got)
	}
	if got, want := decimal.Of(0), (api.Dec{Int: "0"}); got != want {
		t.Errorf("Of 0: %v", got)
	}
	for _, n := range integers() {
		if got, want := decimal.Of(n), dec(strconv.FormatInt(n, 10)); got != want {
			t.Errorf("Of(%d): %v", n, got)
		}
	}
}

// TestInt64: P2.10.
func TestInt64(t *testing.T) {
	for text, want := range map[string]int64{
		"3.00": 3, "3": 3, "-3.0": -3, "0": 0, "0.000": 0, "10": 10, "100.0": 100, "-1": -1,
		"9223372036854775807": math.MaxInt64, "9223372036854775807." + repeat("0", 21): math.MaxInt64, "-9223372036854775808": math.MinInt64, "-9223372036854775808.0": math.MinInt64, "-9223372036854775807": -math.MaxInt64,
	} {
		if got, e := decimal.Int64(dec(text)); got != want || e != api.OK {
			t.Errorf("Int64(%s): %d %d", text, got, e)
		}
	}
	for _, text := range []string{
		"3.5", "-3.5", "0.1", "0.01", "-0.001", "3.0000001", "3.10", "9223372036854775807.5", "0." + repeat("0", 38) + "1",
		"9223372036854775808", "9223372036854775808.0", "-9223372036854775809", "9223372036854775809", "9223372036854775810", "-9223372036854775810", "9300000000000000000", "9999999999999999999", "-9999999999999999999", "10000000000000000000", "18446744073709551615", "18446744073709551616", "18446744073709551617", "-18446744073709551616", "-18446744073709551615", "36893488147419103232", "100000000000000000000", repeat("9", 40), "-" + repeat("9", 40), "1" + repeat("0", 39),
		"340282366920938463463374607431768211456", "340282366920938463463374607431768211457", // 2^128, and 1 more
	} {
		if got, e := decimal.Int64(dec(text)); got != 0 || e != api.ErrWhole {
			t.Errorf("Int64(%s): %d %d", text, got, e)
		}
	}
	for _, d := range samples() {
		want, whole := new(big.Int).QuoRem(unscaled(d, len(d.Frac)), new(big.Int).Exp(big.NewInt(10), big.NewInt(int64(len(d.Frac))), nil), new(big.Int))
		got, e := decimal.Int64(d)
		if whole.Sign() == 0 && want.IsInt64() {
			if got != want.Int64() || e != api.OK {
				t.Errorf("Int64(%s): %d %d", textOf(d), got, e)
			}
		} else if got != 0 || e != api.ErrWhole {
			t.Errorf("Int64(%s): %d %d", textOf(d), got, e)
		}
	}
}
