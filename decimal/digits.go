package decimal

import "idiom/api"

// The functions of this file calculate with numbers without a sign. Such a number is a slice of its digits, each a value from 0 to 9, the highest place first; its scale is kept beside the slice. Two slices that are compared, added, subtracted or divided have the same length and the same scale.

// digitsOf copies the digits of d into a slice of whole places ahead of the point and scale places behind it, neither fewer than d has.
func digitsOf(d api.Dec, whole, scale int) []byte {
	digits := make([]byte, whole+scale)
	begin, end := whole-len(d.Int), whole+len(d.Frac)
	copy(digits[begin:], d.Int)
	copy(digits[whole:], d.Frac)
	for at := begin; at < end; at++ {
		digits[at] -= '0'
	}
	return digits
}

// aligned returns the digits of a and of b at the larger scale of both. The highest place of each is empty: their sum may carry into it.
func aligned(a, b api.Dec) (x, y []byte, scale int) {
	whole := 1 + max(len(a.Int), len(b.Int))
	scale = max(len(a.Frac), len(b.Frac))
	return digitsOf(a, whole, scale), digitsOf(b, whole, scale), scale
}

// decimalOf makes a decimal of digits at a scale, or ErrBound if it is too long. Zero loses its sign.
func decimalOf(neg bool, digits []byte, scale int) (api.Dec, api.Errno) {
	for len(digits) > 0 && digits[0] == 0 {
		digits = digits[1:]
	}
	size := max(len(digits), scale+1)
	if size > api.MaxDigits {
		return api.Dec{}, api.ErrBound
	}
	text := make([]byte, size)
	copy(text[size-len(digits):], digits)
	for at := range text {
		text[at] += '0'
	}
	return api.Dec{
		Neg:  neg && len(digits) > 0,
		Int:  string(text[:size-scale]),
		Frac: string(text[size-scale:]),
	}, api.OK
}

// atScale returns d with zeros at its end up to a scale that is not below its own, or ErrBound if it is too long.
func atScale(d api.Dec, scale int) (api.Dec, api.Errno) {
	return decimalOf(d.Neg, digitsOf(d, len(d.Int), scale), scale)
}

// compare returns -1, 0 or 1 if a is less than, equal to, or greater than b.
func compare(a, b []byte) int {
	for at := range a {
		switch {
		case a[at] < b[at]:
			return -1
		case a[at] > b[at]:
			return 1
		}
	}
	return 0
}

// add returns the sum of a and b, whose highest places leave room for it.
func add(a, b []byte) []byte {
	total := make([]byte, len(a))
	copy(total, a)
	carry := byte(0)
	for at := len(total) - 1; at >= 0; at-- {
		total[at] += b[at] + carry
		carry = total[at] / 10
		total[at] %= 10
	}
	return total
}

// subtract returns a minus b, which is not above a.
func subtract(a, b []byte) []byte {
	rest := make([]byte, len(a))
	copy(rest, a)
	borrow := byte(0)
	for at := len(rest) - 1; at >= 0; at-- {
		taken := b[at] + borrow
		borrow = 0
		if rest[at] < taken {
			rest[at] += 10
			borrow = 1
		}
		rest[at] -= taken
	}
	return rest
}

// multiply returns the product of a and b, at the sum of their scales.
func multiply(a, b []byte) []byte {
	product := make([]byte, len(a)+len(b))
	for i := len(a) - 1; i >= 0; i-- {
		carry := byte(0)
		for j := len(b) - 1; j >= 0; j-- {
			n := product[i+j+1] + a[i]*b[j] + carry // at most 9 + 81 + 9
			product[i+j+1] = n % 10
			carry = n / 10
		}
		product[i] = carry
	}
	return product
}

// divide returns how many times b, which is not 0, goes into a (as digits of scale 0), and what is left of a.
func divide(a, b []byte) (quotient, rest []byte) {
	quotient = make([]byte, len(a))
	rest = make([]byte, len(a))
	for at, digit := range a {
		copy(rest, rest[1:])
		rest[len(rest)-1] = digit
		for compare(rest, b) >= 0 {
			rest = subtract(rest, b)
			quotient[at]++
		}
	}
	return quotient, rest
}
