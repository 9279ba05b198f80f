package round_test

import (
	"testing"

	"idiom/api"
	"idiom/round"
)

// TestStep: Ro4.
func TestStep(t *testing.T) {
	nines := repeat("9", 40)
	for _, x := range []struct {
		d    string
		mode int
		step string
		want string
	}{
		{"1.23", api.RoundHalfEven, "0.05", "1.25"}, {"0.075", api.RoundHalfEven, "0.05", "0.10"},
		{"0.025", api.RoundHalfEven, "0.05", "0.00"}, {"0.125", api.RoundHalfEven, "0.05", "0.10"}, {"-0.075", api.RoundHalfEven, "0.05", "-0.10"}, {"-0.025", api.RoundHalfEven, "0.05", "0.00"}, {"-0.025", api.RoundHalfUp, "0.05", "-0.05"}, {"0.075", api.RoundHalfDown, "0.05", "0.05"}, {"0.0750", api.RoundHalfUp, "0.05", "0.10"}, {"0.07501", api.RoundHalfDown, "0.05", "0.10"}, {"7.5", api.RoundHalfEven, "5", "10"}, {"12.5", api.RoundHalfEven, "5", "10"},
		{"1.5", api.RoundHalfEven, "3", "0"}, {"4.5", api.RoundHalfEven, "3", "6"}, {"1.6", api.RoundHalfEven, "3", "3"}, {"1.4", api.RoundHalfEven, "3", "0"}, {"2", api.RoundHalfEven, "3", "3"}, {"1", api.RoundHalfEven, "3", "0"},
		{"1.23", api.RoundUp, "0.05", "1.25"}, {"1.23", api.RoundDown, "0.05", "1.20"}, {"1.23", api.RoundCeiling, "0.05", "1.25"}, {"1.23", api.RoundFloor, "0.05", "1.20"}, {"-1.23", api.RoundUp, "0.05", "-1.25"}, {"-1.23", api.RoundDown, "0.05", "-1.20"}, {"-1.23", api.RoundCeiling, "0.05", "-1.20"}, {"-1.23", api.RoundFloor, "0.05", "-1.25"}, {"-0.01", api.RoundFloor, "0.05", "-0.05"}, {"-0.01", api.RoundCeiling, "0.05", "0.00"},
		{"1.25", api.RoundNone, "0.05", "1.25"}, {"1.23", api.RoundNone, "0.05", "inexact"}, {"1.250", api.RoundNone, "0.05", "1.25"}, {"1.2", api.RoundNone, "0.05", "1.20"}, {"2", api.RoundNone, "0.500", "2.000"}, {"2.000", api.RoundNone, "1", "2"}, {"2.000", api.RoundNone, "1.0", "2.0"}, {"0", api.RoundNone, "0.05", "0.00"}, {"0.0000", api.RoundNone, "7", "0"}, {"-6.0", api.RoundNone, "1.5", "-6.0"}, {"100", api.RoundNone, "25", "100"},
		{nines, api.RoundDown, "0." + repeat("0", 38) + "1", "bound"}, {nines, api.RoundNone, "0.1", "bound"}, {nines, api.RoundNone, "0.7", "inexact"}, {nines, api.RoundDown, "0.7", "bound"}, {nines, api.RoundUp, "7", "bound"}, {nines, api.RoundDown, "7", repeat("9", 36) + "9996"}, {nines, api.RoundNone, "7", "inexact"}, {nines, api.RoundNone, nines, nines}, {"-" + nines, api.RoundFloor, "7", "bound"},
		{"1", api.RoundUp, nines, nines}, {"1", api.RoundHalfUp, nines, "0"}, {"5" + repeat("0", 39), api.RoundHalfUp, nines, nines}, {"4" + repeat("9", 39), api.RoundHalfUp, nines, "0"}, {"4" + repeat("9", 38) + ".5", api.RoundHalfUp, repeat("9", 39), repeat("9", 39)}, {"4" + repeat("9", 38) + ".5", api.RoundHalfEven, repeat("9", 39), "0"}, {"4" + repeat("9", 38) + ".4", api.RoundHalfUp, repeat("9", 39), "0"},
		{"3" + repeat("0", 39), api.RoundHalfEven, "2" + repeat("0", 39), "4" + repeat("0", 39)}, {"1" + repeat("0", 39), api.RoundHalfEven, "2" + repeat("0", 39), "0"}, {"9" + repeat("0", 39), api.RoundHalfEven, "6" + repeat("0", 39), "bound"}, {"3" + repeat("0", 39), api.RoundHalfEven, "6" + repeat("0", 39), "0"}, {"0.5", api.RoundHalfEven, "1." + repeat("0", 39), "0." + repeat("0", 39)}, {"1.5", api.RoundHalfEven, "1." + repeat("0", 39), "2." + repeat("0", 39)}, {"9.5", api.RoundHalfEven, "1." + repeat("0", 39), "bound"}, {"9.5", api.RoundHalfDown, "1." + repeat("0", 39), "9." + repeat("0", 39)}, {"10", api.RoundNone, "1." + repeat("0", 39), "bound"},
		{"0." + repeat("0", 38) + "1", api.RoundHalfEven, "0." + repeat("0", 38) + "2", "0." + repeat("0", 39)}, {"0." + repeat("0", 38) + "3", api.RoundHalfEven, "0." + repeat("0", 38) + "2", "0." + repeat("0", 38) + "4"}, {"9." + repeat("9", 39), api.RoundHalfEven, "0." + repeat("0", 38) + "2", "bound"}, {"8." + repeat("9", 39), api.RoundHalfEven, "0." + repeat("0", 38) + "2", "9." + repeat("0", 39)}, {repeat("9", 20) + "." + repeat("9", 20), api.RoundHalfUp, "0.0000000000000000001", "1" + repeat("0", 20) + "." + repeat("0", 19)},
	} {
		if got, want := answer(round.Step(dec(x.d), x.mode, dec(x.step))), expected(x.want); got != want {
			t.Errorf("Step(%s, %d, %s): %v, want %v", x.d, x.mode, x.step, got, want)
		}
	}
}

// TestStepOfSamples: Ro4.
func TestStepOfSamples(t *testing.T) {
	for _, d := range samples() {
		for _, mode := range modes {
			for _, step := range steps() {
				if got, want := answer(round.Step(d, mode, step)), answer(wantStep(d, mode, step)); got != want {
					t.Errorf("Step(%s, %d, %s): %v, want %v", textOf(d), mode, textOf(step), got, want)
				}
			}
		}
	}
}

// TestStepsBetween: Ro4, what lies on half a step, or right beside it, for multipliers of few and of many digits.
func TestStepsBetween(t *testing.T) {
	steps := append(randomDecs(4, 400, 20), randomDecs(5, 400, 3)...)
	times := append(randomDecs(6, 400, 18), randomDecs(7, 400, 2)...)
	tried := 0
	for at, step := range steps {
		if step.Neg || isZero(step) {
			continue
		}
		half := unscaled(step, len(step.Frac)+2) // the hundredfold of the step, of which 50 are half
		half.Div(half, unscaled(dec("2"), 0))
		n := unscaled(times[at], len(times[at].Frac))
		n.Mul(n, half).Add(n, unscaled(dec([]string{"0", "0", "1", "-1"}[at%4]), 0))
		d := written(n, len(step.Frac)+2)
		if !isValid(d) {
			continue
		}
		tried++
		for _, mode := range modes {
			if got, want := answer(round.Step(d, mode, step)), answer(wantStep(d, mode, step)); got != want {
				t.Errorf("Step(%s, %d, %s): %v, want %v", textOf(d), mode, textOf(step), got, want)
			}
		}
	}
	if tried < 200 {
		t.Errorf("tried only %d numbers", tried)
	}
}
