package round

import (
	"idiom/api"
	"idiom/decimal"
)

// The functions of this file are handed valid decimals, existing modes and units above 0. A call of layer 2 whose error is dropped has none then.

// toPlaces rounds d to at most that many fraction digits.
func toPlaces(d api.Dec, mode, most int) (api.Dec, api.Errno) {
	if len(d.Frac) <= most {
		return decimal.Pad(d, 0) // d itself, in new memory
	}
	return toMultiple(d, mode, powerOfTen(-most))
}

// powerOfTen is a one with zeros behind it, or with fraction digits ahead of it.
func powerOfTen(power int) api.Dec {
	unit, _ := decimal.Shift(decimal.Of(1), power)
	return unit
}

// toMultiple rounds d to multiples of unit, with as many fraction digits as unit.
func toMultiple(d api.Dec, mode int, unit api.Dec) (api.Dec, api.Errno) {
	rest, _ := decimal.Rem(d, unit)
	exact := sign(rest) == 0
	if mode == api.RoundNone && !exact {
		return api.Dec{}, api.ErrInexact
	}
	inner, errno := decimal.Sub(d, rest)
	if errno != api.OK { // the outer multiple is no shorter
		return api.Dec{}, errno
	}
	inner.Frac = inner.Frac[:len(unit.Frac)] // behind them, a multiple of unit has only zeros
	switch {
	case exact || !isOuter(d, mode, rest, unit):
		return inner, api.OK
	case d.Neg:
		return decimal.Sub(inner, unit)
	}
	return decimal.Add(inner, unit)
}

// isOuter tells whether d, between two multiples of unit, becomes the one that is farther away from 0. The rest is by what d is beyond the other one.
func isOuter(d api.Dec, mode int, rest, unit api.Dec) bool {
	switch mode {
	case api.RoundUp:
		return true
	case api.RoundDown:
		return false
	case api.RoundCeiling:
		return !d.Neg
	case api.RoundFloor:
		return d.Neg
	}
	order := compareToHalf(rest, unit)
	if order == 0 {
		return mode == api.RoundHalfUp || mode == api.RoundHalfEven && isOdd(d, unit)
	}
	return order > 0
}

// compareToHalf returns -1, 0 or 1 if rest, without its sign, is less than, equal to, or greater than half of unit. It asks how many times rest goes into unit, as the half of one and the double of the other may be too long.
func compareToHalf(rest, unit api.Dec) int {
	rest.Neg = false
	times, errno := decimal.Div(unit, rest)
	if errno != api.OK { // too long: more than twice
		return -1
	}
	if times == decimal.Of(1) {
		return 1
	}
	left, _ := decimal.Rem(unit, rest)
	if times == decimal.Of(2) && sign(left) == 0 {
		return 0
	}
	return -1
}

// isOdd tells whether unit goes into d an odd number of times. It asks for the last digit of that number alone, as all of them may be too long.
func isOdd(d, unit api.Dec) bool {
	if ten, errno := decimal.Shift(unit, 1); errno == api.OK { // otherwise d is below ten units
		d, _ = decimal.Rem(d, ten)
	}
	times, _ := decimal.Div(d, unit)
	return (times.Int[0]-'0')%2 == 1
}

// withZeros returns d with zeros at the end of its fraction taken away as long as it has more fraction digits than places, and added until it has as many. Places may be beyond what a decimal can have, at both ends.
func withZeros(d api.Dec, places int) (api.Dec, api.Errno) {
	if places > api.MaxDigits {
		return api.Dec{}, api.ErrBound
	}
	end := len(d.Frac)
	for end > max(places, 0) && d.Frac[end-1] == '0' {
		end--
	}
	d.Frac = d.Frac[:end]
	return decimal.Pad(d, max(places, 0))
}

// significantDigits is how many significant digits d has.
func significantDigits(d api.Dec) int {
	digits := d.Int + d.Frac
	for at := range len(digits) {
		if digits[at] != '0' {
			return len(digits) - at
		}
	}
	return len(digits)
}

// sign returns -1, 0 or 1 if d is below 0, 0, or above it.
func sign(d api.Dec) int {
	order, _ := decimal.Compare(d, decimal.Of(0))
	return order
}
