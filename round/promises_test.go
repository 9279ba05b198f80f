package round_test

import (
	"math/big"
	"strconv"
	"testing"

	"idiom/api"
	"idiom/round"
)

// rounding is a call with all of its numbers but the mode, and the unit to whose multiples it rounds d.
type rounding struct {
	name string
	call func(d api.Dec, mode int) (api.Dec, api.Errno)
	unit func(d api.Dec) *big.Rat
}

// roundings is each call, with some numbers.
func roundings() []rounding {
	var all []rounding
	add := func(name string, call func(api.Dec, int) (api.Dec, api.Errno), unit func(api.Dec) *big.Rat) {
		all = append(all, rounding{name, call, unit})
	}
	for _, n := range []int{0, 1, 2, 3, 20, 38, 40} {
		unit := func(api.Dec) *big.Rat { return new(big.Rat).SetFrac(tenTo(0), tenTo(n)) }
		add("Places of "+strconv.Itoa(n), func(d api.Dec, mode int) (api.Dec, api.Errno) { return round.Places(d, mode, n) }, unit)
		for _, least := range []int{0, n / 2, n} {
			add("Fix of "+strconv.Itoa(least)+" to "+strconv.Itoa(n), func(d api.Dec, mode int) (api.Dec, api.Errno) { return round.Fix(d, mode, least, n) }, unit)
		}
	}
	for _, n := range []int{1, 2, 3, 20, 39, 40} {
		unit := func(d api.Dec) *big.Rat { return valueOf(unitOf(significant(d) - n - len(d.Frac))) }
		for _, least := range []int{1, (n + 1) / 2, n} {
			add("Significant of "+strconv.Itoa(least)+" to "+strconv.Itoa(n), func(d api.Dec, mode int) (api.Dec, api.Errno) { return round.Significant(d, mode, least, n) }, unit)
		}
	}
	for _, step := range steps() {
		add("Step of "+textOf(step), func(d api.Dec, mode int) (api.Dec, api.Errno) { return round.Step(d, mode, step) }, func(api.Dec) *big.Rat { return valueOf(step) })
	}
	return all
}

// TestNearAndAgain: Ro6, how far a result is from d, and that rounding it again does not change it.
func TestNearAndAgain(t *testing.T) {
	times := 0
	for _, x := range roundings() {
		for _, d := range samples() {
			unit := x.unit(d)
			for _, mode := range modes {
				got, e := x.call(d, mode)
				if e != api.OK {
					continue
				}
				times++
				away := new(big.Rat).Sub(valueOf(got), valueOf(d))
				away.Abs(away)
				if away.Cmp(unit) >= 0 {
					t.Errorf("%s by mode %d of %s: %s is a unit away", x.name, mode, textOf(d), textOf(got))
				}
				switch mode {
				case api.RoundHalfUp, api.RoundHalfDown, api.RoundHalfEven:
					if away.Add(away, away).Cmp(unit) > 0 {
						t.Errorf("%s by mode %d of %s: %s is more than half a unit away", x.name, mode, textOf(d), textOf(got))
					}
				}
				if again := answer(x.call(got, mode)); again != answer(got, api.OK) {
					t.Errorf("%s by mode %d of %s: %s, again %v", x.name, mode, textOf(d), textOf(got), again)
				}
			}
		}
	}
	if times < 100000 {
		t.Errorf("tried only %d times", times)
	}
}

// TestSides: Ro6, on which side of d the result of each mode lies.
func TestSides(t *testing.T) {
	for _, x := range roundings() {
		for _, d := range samples() {
			value := valueOf(d)
			size := new(big.Rat).Abs(value)
			for _, mode := range []int{api.RoundFloor, api.RoundCeiling, api.RoundDown, api.RoundUp} {
				got, e := x.call(d, mode)
				if e == api.ErrBound {
					continue
				}
				order := valueOf(got).Cmp(value)
				longer := new(big.Rat).Abs(valueOf(got)).Cmp(size)
				otherSign := valueOf(got).Sign()*value.Sign() < 0
				if e != api.OK || mode == api.RoundFloor && order > 0 || mode == api.RoundCeiling && order < 0 || mode == api.RoundDown && (longer > 0 || otherSign) || mode == api.RoundUp && (longer < 0 || otherSign) {
					t.Errorf("%s by mode %d of %s: %v", x.name, mode, textOf(d), answer(got, e))
				}
			}
		}
	}
}

// TestFloorAndCeiling: Ro6, the other modes by these two.
func TestFloorAndCeiling(t *testing.T) {
	exact, inexact := 0, 0
	for _, x := range roundings() {
		for _, d := range samples() {
			floor, ceiling := answer(x.call(d, api.RoundFloor)), answer(x.call(d, api.RoundCeiling))
			for _, mode := range modes[:7] {
				if got := answer(x.call(d, mode)); got != floor && got != ceiling {
					t.Errorf("%s by mode %d of %s: %v, neither %v nor %v", x.name, mode, textOf(d), got, floor, ceiling)
				}
			}
			none := answer(x.call(d, api.RoundNone))
			switch {
			case floor.e == api.ErrBound && ceiling.e == api.ErrBound: // whether they differ is not to be seen
			case floor != ceiling:
				inexact++
				refused(t, x.name+" by none of "+textOf(d), none, api.ErrInexact)
			default:
				exact++
				if none != floor {
					t.Errorf("%s by none of %s: %v, want %v", x.name, textOf(d), none, floor)
				}
			}
		}
	}
	if exact < 10000 || inexact < 10000 {
		t.Errorf("tried only %d exact numbers and %d others", exact, inexact)
	}
}
