package decimal

import "idiom/api"

// Compare returns -1, 0 or 1 if the value of a is less than, equal to, or greater than that of b.
func Compare(a, b api.Dec) (int, api.Errno) {
	if errno := checkBoth(a, b); errno != api.OK {
		return 0, errno
	}
	x, y, _ := aligned(a, b)
	switch {
	case a.Neg && b.Neg:
		return compare(y, x), api.OK
	case a.Neg:
		return -1, api.OK
	case b.Neg:
		return 1, api.OK
	}
	return compare(x, y), api.OK
}

// Add returns a plus b, at the larger scale of both.
func Add(a, b api.Dec) (api.Dec, api.Errno) {
	if errno := checkBoth(a, b); errno != api.OK {
		return api.Dec{}, errno
	}
	return sum(a, b)
}

// Sub returns a minus b, at the larger scale of both.
func Sub(a, b api.Dec) (api.Dec, api.Errno) {
	if errno := checkBoth(a, b); errno != api.OK {
		return api.Dec{}, errno
	}
	b.Neg = !b.Neg
	return sum(a, b)
}

// sum adds a and b, of which a zero may have a sign.
func sum(a, b api.Dec) (api.Dec, api.Errno) {
	x, y, scale := aligned(a, b)
	switch {
	case a.Neg == b.Neg:
		return decimalOf(a.Neg, add(x, y), scale)
	case compare(x, y) >= 0:
		return decimalOf(a.Neg, subtract(x, y), scale)
	}
	return decimalOf(b.Neg, subtract(y, x), scale)
}

// Mul returns a times b, at the sum of both scales.
func Mul(a, b api.Dec) (api.Dec, api.Errno) {
	if errno := checkBoth(a, b); errno != api.OK {
		return api.Dec{}, errno
	}
	x := digitsOf(a, len(a.Int), len(a.Frac))
	y := digitsOf(b, len(b.Int), len(b.Frac))
	return decimalOf(a.Neg != b.Neg, multiply(x, y), len(a.Frac)+len(b.Frac))
}

// Div returns the whole quotient of a by b, towards 0.
func Div(a, b api.Dec) (api.Dec, api.Errno) {
	if errno := checkDivision(a, b); errno != api.OK {
		return api.Dec{}, errno
	}
	x, y, _ := aligned(a, b)
	quotient, _ := divide(x, y)
	return decimalOf(a.Neg != b.Neg, quotient, 0)
}

// Rem returns what Div leaves of a, at the larger scale of both, however long the quotient is.
func Rem(a, b api.Dec) (api.Dec, api.Errno) {
	if errno := checkDivision(a, b); errno != api.OK {
		return api.Dec{}, errno
	}
	x, y, scale := aligned(a, b)
	_, rest := divide(x, y)
	return decimalOf(a.Neg, rest, scale)
}

func checkDivision(a, b api.Dec) api.Errno {
	if errno := checkBoth(a, b); errno != api.OK {
		return errno
	}
	if isZero(b) {
		return api.ErrZero
	}
	return api.OK
}
