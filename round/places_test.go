package round_test

import (
	"testing"

	"idiom/api"
	"idiom/round"
)

// TestModes: Ro1, what each mode makes of a number without fraction digits. The columns are the modes in their order.
func TestModes(t *testing.T) {
	for _, row := range [][9]string{
		{"5.5", "6", "5", "6", "5", "6", "5", "6", "inexact"},
		{"2.5", "3", "2", "3", "2", "3", "2", "2", "inexact"},
		{"1.6", "2", "1", "2", "1", "2", "2", "2", "inexact"},
		{"1.1", "2", "1", "2", "1", "1", "1", "1", "inexact"},
		{"1.0", "1", "1", "1", "1", "1", "1", "1", "1"},
		{"-1.0", "-1", "-1", "-1", "-1", "-1", "-1", "-1", "-1"},
		{"-1.1", "-2", "-1", "-1", "-2", "-1", "-1", "-1", "inexact"},
		{"-1.6", "-2", "-1", "-1", "-2", "-2", "-2", "-2", "inexact"},
		{"-2.5", "-3", "-2", "-2", "-3", "-3", "-2", "-2", "inexact"},
		{"-5.5", "-6", "-5", "-5", "-6", "-6", "-5", "-6", "inexact"},
		{"0.5", "1", "0", "1", "0", "1", "0", "0", "inexact"},
		{"-0.5", "-1", "0", "0", "-1", "-1", "0", "0", "inexact"},
		{"-0.4", "-1", "0", "0", "-1", "0", "0", "0", "inexact"},
		{"0.0", "0", "0", "0", "0", "0", "0", "0", "0"},
		{"2.5000001", "3", "2", "3", "2", "3", "3", "3", "inexact"},
		{"-2.5000001", "-3", "-2", "-2", "-3", "-3", "-3", "-3", "inexact"},
		{"2.4999999", "3", "2", "3", "2", "2", "2", "2", "inexact"},
		{"9.5", "10", "9", "10", "9", "10", "9", "10", "inexact"},
		{"-99.9", "-100", "-99", "-99", "-100", "-100", "-100", "-100", "inexact"},
		{"0." + repeat("0", 38) + "1", "1", "0", "1", "0", "0", "0", "0", "inexact"},
		{"9." + repeat("9", 39), "10", "9", "10", "9", "10", "10", "10", "inexact"},
		{repeat("9", 39) + ".5", "1" + repeat("0", 39), repeat("9", 39), "1" + repeat("0", 39), repeat("9", 39), "1" + repeat("0", 39), repeat("9", 39), "1" + repeat("0", 39), "inexact"},
	} {
		for at, mode := range modes {
			if got, want := answer(round.Places(dec(row[0]), mode, 0)), expected(row[1+at]); got != want {
				t.Errorf("Places(%s, %d, 0): %v, want %v", row[0], mode, got, want)
			}
		}
	}
}

// TestPlaces: Ro1.
func TestPlaces(t *testing.T) {
	for _, x := range []struct {
		d    string
		mode int
		most int
		want string
	}{
		{"2.5", api.RoundHalfEven, 0, "2"}, {"2.5", api.RoundHalfUp, 0, "3"}, {"-2.5", api.RoundFloor, 0, "-3"}, {"-0.4", api.RoundHalfEven, 0, "0"},
		{"2.5", api.RoundUp, 1, "2.5"}, {"2.5", api.RoundUp, 2, "2.5"}, {"2.50", api.RoundNone, 2, "2.50"}, {"2.500", api.RoundNone, 1, "2.5"}, {"2.500", api.RoundNone, 2, "2.50"}, {"2.505", api.RoundNone, 2, "inexact"}, {"7", api.RoundDown, 0, "7"}, {"7", api.RoundDown, 40, "7"},
		{"1.005", api.RoundHalfEven, 2, "1.00"}, {"1.015", api.RoundHalfEven, 2, "1.02"}, {"-1.005", api.RoundHalfEven, 2, "-1.00"}, {"-0.005", api.RoundHalfEven, 2, "0.00"}, {"-0.005", api.RoundUp, 2, "-0.01"}, {"0.995", api.RoundHalfEven, 2, "1.00"}, {"9.96", api.RoundHalfDown, 1, "10.0"}, {"1.20", api.RoundUp, 1, "1.2"}, {"1.000", api.RoundCeiling, 1, "1.0"}, {"-0.001", api.RoundCeiling, 1, "0.0"},
		{"0." + repeat("0", 38) + "5", api.RoundHalfUp, 38, "0." + repeat("0", 37) + "1"}, {"0." + repeat("0", 38) + "5", api.RoundHalfDown, 38, "0." + repeat("0", 38)}, {"0." + repeat("9", 39), api.RoundUp, 39, "0." + repeat("9", 39)}, {"9." + repeat("9", 39), api.RoundUp, 38, "10." + repeat("0", 38)}, {"9." + repeat("9", 39), api.RoundUp, 40, "9." + repeat("9", 39)},
	} {
		if got, want := answer(round.Places(dec(x.d), x.mode, x.most)), expected(x.want); got != want {
			t.Errorf("Places(%s, %d, %d): %v, want %v", x.d, x.mode, x.most, got, want)
		}
	}
}

// places is numbers of digits to which the samples are rounded.
var places = []int{0, 1, 2, 3, 4, 5, 19, 20, 37, 38, 39, 40}

// TestPlacesOfSamples: Ro1.
func TestPlacesOfSamples(t *testing.T) {
	for _, d := range samples() {
		for _, mode := range modes {
			for _, most := range places {
				if got, want := answer(round.Places(d, mode, most)), answer(wantPlaces(d, mode, most)); got != want {
					t.Errorf("Places(%s, %d, %d): %v, want %v", textOf(d), mode, most, got, want)
				}
			}
		}
	}
}

// TestFix: Ro2.
func TestFix(t *testing.T) {
	nines := repeat("9", 40)
	for _, x := range []struct {
		d           string
		mode        int
		least, most int
		want        string
	}{
		{"1.2300", api.RoundHalfEven, 1, 3, "1.23"}, {"2", api.RoundHalfEven, 2, 4, "2.00"},
		{"1.2300", api.RoundHalfEven, 3, 3, "1.230"}, {"1.2300", api.RoundHalfEven, 0, 4, "1.23"}, {"1.2300", api.RoundHalfEven, 4, 4, "1.2300"}, {"1.2300", api.RoundHalfEven, 6, 6, "1.230000"}, {"1.2300", api.RoundNone, 0, 1, "inexact"}, {"1.2300", api.RoundNone, 0, 2, "1.23"},
		{"100", api.RoundHalfEven, 0, 0, "100"}, {"100.00", api.RoundHalfEven, 0, 2, "100"}, {"100.00", api.RoundHalfEven, 1, 2, "100.0"}, {"99.96", api.RoundHalfUp, 0, 1, "100"}, {"99.96", api.RoundHalfUp, 1, 1, "100.0"}, {"1.05", api.RoundDown, 0, 1, "1"}, {"1.05", api.RoundUp, 0, 1, "1.1"}, {"-1.005", api.RoundHalfEven, 1, 2, "-1.0"},
		{"0", api.RoundHalfEven, 3, 5, "0.000"}, {"0.0000", api.RoundNone, 0, 0, "0"}, {"-0.004", api.RoundHalfEven, 0, 2, "0"}, {"-0.004", api.RoundHalfEven, 1, 2, "0.0"},
		{"1", api.RoundNone, 39, 39, "1." + repeat("0", 39)}, {"1", api.RoundNone, 40, 40, "bound"}, {"10", api.RoundNone, 38, 40, "10." + repeat("0", 38)}, {"10", api.RoundNone, 39, 40, "bound"}, {nines, api.RoundUp, 0, 40, nines}, {nines, api.RoundUp, 1, 40, "bound"}, {"0.1", api.RoundUp, 40, 40, "bound"}, {"9." + repeat("9", 39), api.RoundUp, 38, 38, "10." + repeat("0", 38)}, {"9." + repeat("9", 39), api.RoundDown, 40, 40, "bound"}, {repeat("9", 39) + ".5", api.RoundNone, 0, 0, "inexact"},
	} {
		if got, want := answer(round.Fix(dec(x.d), x.mode, x.least, x.most)), expected(x.want); got != want {
			t.Errorf("Fix(%s, %d, %d, %d): %v, want %v", x.d, x.mode, x.least, x.most, got, want)
		}
	}
}

// TestFixOfSamples: Ro2.
func TestFixOfSamples(t *testing.T) {
	for _, d := range samples() {
		for _, mode := range modes {
			for at, most := range places {
				for _, least := range places[:at+1] {
					if got, want := answer(round.Fix(d, mode, least, most)), answer(wantFix(d, mode, least, most)); got != want {
						t.Errorf("Fix(%s, %d, %d, %d): %v, want %v", textOf(d), mode, least, most, got, want)
					}
				}
			}
		}
	}
}
