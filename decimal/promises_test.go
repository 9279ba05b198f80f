package decimal_test

import (
	"slices"
	"testing"

	"idiom/api"
	"idiom/decimal"
)

// The consequences of the chapter, in its words, each by the calls alone. A law that asks for results that are not too long is told when one is; the tests count where it applied.

// tooLong tells whether one of these errors is ErrBound; any other one is a fault.
func tooLong(t *testing.T, errnos ...api.Errno) bool {
	t.Helper()
	for _, e := range errnos {
		if e != api.OK && e != api.ErrBound {
			t.Errorf("error %d", e)
		}
	}
	return slices.Contains(errnos, api.ErrBound)
}

// compared is what Compare answers for two valid decimals.
func compared(t *testing.T, a, b api.Dec) int {
	t.Helper()
	order, e := decimal.Compare(a, b)
	if e != api.OK {
		t.Errorf("Compare(%s, %s): error %d", textOf(a), textOf(b), e)
	}
	return order
}

func trimmed(t *testing.T, d api.Dec) api.Dec {
	t.Helper()
	got, e := decimal.Trim(d)
	if e != api.OK {
		t.Errorf("Trim(%s): error %d", textOf(d), e)
	}
	return got
}

func applied(t *testing.T, law string, times, least int) {
	t.Helper()
	if times < least {
		t.Errorf("%s: tried only %d times", law, times)
	}
}

// TestOrder: P2.12.
func TestOrder(t *testing.T) {
	all := samples()
	zero := dec("0")
	differences := 0
	for _, a := range all {
		for _, b := range all {
			order := compared(t, a, b)
			if order != -compared(t, b, a) {
				t.Errorf("Compare of %s and %s is not the opposite the other way round", textOf(a), textOf(b))
			}
			if difference, e := decimal.Sub(a, b); !tooLong(t, e) {
				differences++
				if compared(t, difference, zero) != order {
					t.Errorf("Compare(%s, %s): %d, the difference is %s", textOf(a), textOf(b), order, textOf(difference))
				}
			}
			if (order == 0) != (trimmed(t, a) == trimmed(t, b)) {
				t.Errorf("Compare(%s, %s): %d, but Trim answers %s and %s", textOf(a), textOf(b), order, textOf(trimmed(t, a)), textOf(trimmed(t, b)))
			}
		}
	}
	applied(t, "differences", differences, 10000)
	sorted := slices.SortedFunc(slices.Values(all), func(a, b api.Dec) int { return compared(t, a, b) })
	for i, a := range sorted {
		for _, b := range sorted[i:] {
			if compared(t, a, b) > 0 {
				t.Errorf("the order is not transitive: %s, %s", textOf(a), textOf(b))
			}
		}
	}
}

// commutative is the calls whose operands may change places.
var commutative = []struct {
	name string
	call binary
}{
	{"Add", decimal.Add},
	{"Mul", decimal.Mul},
}

// TestCommutative: P2.13.
func TestCommutative(t *testing.T) {
	all := samples()
	for _, a := range all {
		for _, b := range all {
			for _, x := range commutative {
				ab, e := x.call(a, b)
				ba, e2 := x.call(b, a)
				if ab != ba || e != e2 {
					t.Errorf("%s of %s and %s: %s %d, the other way round %s %d", x.name, textOf(a), textOf(b), textOf(ab), e, textOf(ba), e2)
				}
			}
		}
	}
}

// triples is random decimals, three by three: of few digits, of half as many as a decimal may have, and of all.
func triples() [][3]api.Dec {
	var all [][3]api.Dec
	for seed, most := range []int{3, 6, 12, 20, 40} {
		list := randomDecs(int64(10+seed), 3000, most)
		for at := 0; at+3 <= len(list); at += 3 {
			all = append(all, [3]api.Dec(list[at:at+3]))
		}
	}
	return all
}

// TestAssociative: P2.13.
func TestAssociative(t *testing.T) {
	for _, x := range commutative {
		times := 0
		for _, d := range triples() {
			ab, e := x.call(d[0], d[1])
			bc, e2 := x.call(d[1], d[2])
			if tooLong(t, e, e2) {
				continue
			}
			left, e := x.call(ab, d[2])
			right, e2 := x.call(d[0], bc)
			if tooLong(t, e, e2) {
				continue
			}
			times++
			if left != right {
				t.Errorf("%s is not associative for %v: %s, %s", x.name, d, textOf(left), textOf(right))
			}
		}
		applied(t, x.name, times, 2000)
	}
}

// TestDistributive: P2.13.
func TestDistributive(t *testing.T) {
	times := 0
	for _, d := range triples() {
		bc, e := decimal.Add(d[1], d[2])
		ab, e2 := decimal.Mul(d[0], d[1])
		ac, e3 := decimal.Mul(d[0], d[2])
		if tooLong(t, e, e2, e3) {
			continue
		}
		left, e := decimal.Mul(d[0], bc)
		right, e2 := decimal.Add(ab, ac)
		if tooLong(t, e, e2) {
			continue
		}
		times++
		if compared(t, left, right) != 0 {
			t.Errorf("Mul is not distributive for %v: %s, %s", d, textOf(left), textOf(right))
		}
	}
	applied(t, "the law", times, 2000)
}

// TestTakenAndGivenBack: P2.13, a - b + b.
func TestTakenAndGivenBack(t *testing.T) {
	all := samples()
	times := 0
	for _, a := range all {
		for _, b := range all {
			difference, e := decimal.Sub(a, b)
			if tooLong(t, e) {
				continue
			}
			back, e := decimal.Add(difference, b)
			if tooLong(t, e) {
				continue
			}
			times++
			if compared(t, back, a) != 0 {
				t.Errorf("%s less and plus %s: %s", textOf(a), textOf(b), textOf(back))
			}
		}
	}
	applied(t, "the law", times, 10000)
}

func sizeOf(d api.Dec) api.Dec {
	d.Neg = false
	return d
}

// TestDivision: P2.14.
func TestDivision(t *testing.T) {
	all := samples()
	times := 0
	for _, a := range all {
		for _, b := range all {
			if isZero(b) {
				continue
			}
			rest, e := decimal.Rem(a, b)
			if e != api.OK {
				t.Errorf("Rem(%s, %s): error %d", textOf(a), textOf(b), e)
			}
			if compared(t, sizeOf(rest), sizeOf(b)) >= 0 || !isZero(rest) && rest.Neg != a.Neg {
				t.Errorf("Rem(%s, %s): %s", textOf(a), textOf(b), textOf(rest))
			}
			quotient, e := decimal.Div(a, b)
			if tooLong(t, e) {
				continue
			}
			product, e := decimal.Mul(quotient, b)
			if tooLong(t, e) {
				continue
			}
			back, e := decimal.Add(product, rest)
			if tooLong(t, e) {
				continue
			}
			times++
			if compared(t, back, a) != 0 {
				t.Errorf("%s by %s: %s, rest %s", textOf(a), textOf(b), textOf(quotient), textOf(rest))
			}
		}
	}
	applied(t, "the law", times, 10000)
}

// TestDivisionOfShifted: P2.14.
func TestDivisionOfShifted(t *testing.T) {
	times := 0
	for at, d := range triples() {
		power := at%81 - 40
		if isZero(d[1]) {
			continue
		}
		a, e := decimal.Shift(d[0], power)
		b, e2 := decimal.Shift(d[1], power)
		if tooLong(t, e, e2) {
			continue
		}
		rest, e := decimal.Rem(d[0], d[1])
		want, e2 := decimal.Shift(rest, power)
		if tooLong(t, e, e2) {
			continue
		}
		times++
		if got, e := decimal.Rem(a, b); e != api.OK || compared(t, got, want) != 0 {
			t.Errorf("Rem of %s and %s, shifted by %d: %s %d, want %s", textOf(d[0]), textOf(d[1]), power, textOf(got), e, textOf(want))
		}
	}
	applied(t, "the law", times, 1000)
}

// TestShiftingAndPadding: P2.15.
func TestShiftingAndPadding(t *testing.T) {
	shifts, pads := 0, 0
	for _, d := range append(samples(), randomDecs(20, 500, 40)...) {
		short := trimmed(t, d)
		if compared(t, short, d) != 0 || trimmed(t, short) != short {
			t.Errorf("Trim(%s): %s", textOf(d), textOf(short))
		}
		for n := -40; n <= 40; n++ {
			if there, e := decimal.Shift(d, n); !tooLong(t, e) {
				if back, e := decimal.Shift(there, -n); !tooLong(t, e) {
					shifts++
					if compared(t, back, d) != 0 {
						t.Errorf("%s shifted by %d and back: %s", textOf(d), n, textOf(back))
					}
				}
			}
			if n < 0 {
				continue
			}
			if padded, e := decimal.Pad(d, n); !tooLong(t, e) {
				pads++
				if compared(t, padded, d) != 0 || trimmed(t, padded) != short {
					t.Errorf("Pad(%s, %d): %s", textOf(d), n, textOf(padded))
				}
			}
		}
	}
	applied(t, "Shift", shifts, 10000)
	applied(t, "Pad", pads, 10000)
}

// TestIntegers: P2.16.
func TestIntegers(t *testing.T) {
	for _, n := range integers() {
		if back, e := decimal.Int64(decimal.Of(n)); back != n || e != api.OK {
			t.Errorf("Int64(Of(%d)): %d %d", n, back, e)
		}
		for _, zeros := range []int{0, 1, 20} {
			d := api.Dec{Neg: decimal.Of(n).Neg, Int: decimal.Of(n).Int, Frac: repeat("0", zeros)}
			got, e := decimal.Int64(d)
			if e != api.OK || decimal.Of(got) != trimmed(t, d) {
				t.Errorf("Of(Int64(%s)): %s %d", textOf(d), textOf(decimal.Of(got)), e)
			}
		}
	}
	times := 0
	for _, d := range samples() {
		if n, e := decimal.Int64(d); e == api.OK {
			times++
			if decimal.Of(n) != trimmed(t, d) {
				t.Errorf("Of(Int64(%s)): %s", textOf(d), textOf(decimal.Of(n)))
			}
		}
	}
	applied(t, "the law", times, 50)
}
