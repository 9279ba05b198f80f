package round_test

import (
	"testing"

	"idiom/api"
	"idiom/round"
)

// TestSignificant: Ro3.
func TestSignificant(t *testing.T) {
	nines := repeat("9", 40)
	for _, x := range []struct {
		d           string
		mode        int
		least, most int
		want        string
	}{
		{"1234", api.RoundHalfEven, 1, 2, "1200"}, {"0.0999", api.RoundHalfEven, 2, 2, "0.10"}, {"9.99", api.RoundHalfEven, 1, 2, "10"}, {"0", api.RoundHalfEven, 3, 3, "0.00"}, {"0", api.RoundHalfEven, 3, 5, "0.00"},
		{"9.99", api.RoundHalfEven, 2, 2, "10"}, {"9.99", api.RoundDown, 1, 2, "9.9"}, {"0.0999", api.RoundHalfEven, 1, 2, "0.1"}, {"0.0999", api.RoundDown, 1, 2, "0.099"}, {"99.96", api.RoundHalfEven, 3, 3, "100"}, {"99.96", api.RoundHalfEven, 1, 3, "100"}, {"999", api.RoundUp, 1, 1, "1000"}, {"0.999", api.RoundUp, 1, 1, "1"}, {"0.00999", api.RoundUp, 1, 2, "0.01"}, {"0.00999", api.RoundUp, 2, 2, "0.010"}, {"0.0996", api.RoundUp, 2, 2, "0.10"},
		{"1234", api.RoundUp, 1, 3, "1240"}, {"-1234", api.RoundFloor, 1, 2, "-1300"}, {"-1234", api.RoundCeiling, 1, 2, "-1200"}, {"1250", api.RoundHalfEven, 1, 2, "1200"}, {"1350", api.RoundHalfEven, 1, 2, "1400"}, {"1250", api.RoundHalfUp, 1, 2, "1300"}, {"1350", api.RoundHalfDown, 1, 2, "1300"}, {"1250.1", api.RoundHalfDown, 1, 2, "1300"}, {"1234.56", api.RoundHalfEven, 1, 2, "1200"}, {"1234.56", api.RoundHalfEven, 1, 4, "1235"}, {"1234.56", api.RoundHalfEven, 1, 5, "1234.6"}, {"105", api.RoundHalfEven, 1, 2, "100"}, {"5", api.RoundHalfEven, 1, 1, "5"},
		{"0.05", api.RoundHalfEven, 1, 1, "0.05"}, {"0.050", api.RoundHalfEven, 1, 2, "0.05"}, {"0.050", api.RoundHalfEven, 2, 2, "0.050"}, {"0.050", api.RoundHalfEven, 4, 4, "0.05000"}, {"1.2300", api.RoundHalfEven, 1, 5, "1.23"}, {"1.2300", api.RoundHalfEven, 4, 5, "1.230"}, {"1.2300", api.RoundHalfEven, 5, 9, "1.2300"}, {"12", api.RoundHalfEven, 1, 2, "12"}, {"12", api.RoundHalfEven, 4, 4, "12.00"}, {"100", api.RoundHalfEven, 1, 3, "100"}, {"100", api.RoundHalfEven, 1, 1, "100"}, {"100.00", api.RoundHalfEven, 1, 5, "100"}, {"100.00", api.RoundHalfEven, 4, 5, "100.0"}, {"-7.0", api.RoundHalfEven, 1, 1, "-7"},
		{"0.00", api.RoundHalfEven, 1, 1, "0"}, {"0.0000", api.RoundNone, 2, 3, "0.0"}, {"0.0000", api.RoundNone, 5, 5, "0.0000"}, {"0.0", api.RoundUp, 1, 40, "0"},
		{"1200", api.RoundNone, 1, 2, "1200"}, {"1230", api.RoundNone, 1, 2, "inexact"}, {"1.230", api.RoundNone, 1, 3, "1.23"}, {"1.231", api.RoundNone, 1, 3, "inexact"},
		{"0", api.RoundNone, 40, 40, "0." + repeat("0", 39)}, {"1", api.RoundNone, 40, 40, "1." + repeat("0", 39)}, {"0.1", api.RoundNone, 39, 40, "0.1" + repeat("0", 38)}, {"0.1", api.RoundNone, 40, 40, "bound"}, {"0.01", api.RoundNone, 39, 39, "bound"}, {"0." + repeat("0", 38) + "1", api.RoundNone, 1, 1, "0." + repeat("0", 38) + "1"}, {"0." + repeat("0", 38) + "1", api.RoundNone, 2, 2, "bound"}, {"0." + repeat("0", 38) + "1", api.RoundNone, 3, 3, "bound"}, {"0." + repeat("0", 38) + "1", api.RoundNone, 40, 40, "bound"},
		{nines, api.RoundHalfEven, 1, 39, "bound"}, {nines, api.RoundHalfEven, 1, 1, "bound"}, {nines, api.RoundDown, 1, 39, repeat("9", 39) + "0"}, {nines, api.RoundDown, 1, 1, "9" + repeat("0", 39)}, {nines, api.RoundUp, 1, 40, nines}, {nines, api.RoundNone, 1, 39, "inexact"}, {"-" + nines, api.RoundFloor, 1, 39, "bound"}, {"-" + nines, api.RoundCeiling, 1, 39, "-" + repeat("9", 39) + "0"}, {"1" + repeat("0", 39), api.RoundNone, 1, 1, "1" + repeat("0", 39)}, {"9." + repeat("9", 39), api.RoundHalfUp, 39, 39, "10." + repeat("0", 37)}, {repeat("9", 39) + ".9", api.RoundHalfUp, 39, 39, "1" + repeat("0", 39)},
	} {
		if got, want := answer(round.Significant(dec(x.d), x.mode, x.least, x.most)), expected(x.want); got != want {
			t.Errorf("Significant(%s, %d, %d, %d): %v, want %v", x.d, x.mode, x.least, x.most, got, want)
		}
	}
}

// TestSignificantOfSamples: Ro3.
func TestSignificantOfSamples(t *testing.T) {
	for _, d := range samples() {
		for _, mode := range modes {
			for at, most := range places[1:] {
				for _, least := range places[1 : at+2] {
					if got, want := answer(round.Significant(d, mode, least, most)), answer(wantSignificant(d, mode, least, most)); got != want {
						t.Errorf("Significant(%s, %d, %d, %d): %v, want %v", textOf(d), mode, least, most, got, want)
					}
				}
			}
		}
	}
}
