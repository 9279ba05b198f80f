package operand_test

import (
	"math"
	"testing"

	"idiom/api"
	"idiom/operand"
)

// beyond is numbers that are no compact exponents.
var beyond = []int{-1, -2, -40, -41, 41, 42, 80, 1 << 32, -(1 << 32), 1<<32 + 1, math.MaxInt, math.MinInt, math.MaxInt - 1, math.MinInt + 1}

// TestOf: P4.1, the operands written out. Some numbers are those of the table in UTS #35.
func TestOf(t *testing.T) {
	for _, x := range []struct {
		d    string
		exp  int
		want api.Ops
	}{
		{"1.50", 0, api.Ops{N: dec("1.5"), I: "1", V: 2, W: 1, F: "50", T: "5"}},
		{"-1", 0, api.Ops{N: dec("1"), I: "1", F: "0", T: "0"}},
		{"0.05", 0, api.Ops{N: dec("0.05"), I: "0", V: 2, W: 2, F: "5", T: "5"}},
		{"1.2", 6, api.Ops{N: dec("1200000"), I: "1200000", F: "0", T: "0", E: 6}},
		{"21.5", 0, api.Ops{N: dec("21.5"), I: "21", V: 1, W: 1, F: "5", T: "5"}},
		{"0", 0, api.Ops{N: dec("0"), I: "0", F: "0", T: "0"}},
		{"0.00", 0, api.Ops{N: dec("0"), I: "0", V: 2, F: "0", T: "0"}},
		{"1", 0, api.Ops{N: dec("1"), I: "1", F: "0", T: "0"}},
		{"1.0", 0, api.Ops{N: dec("1"), I: "1", V: 1, F: "0", T: "0"}},
		{"1.00", 0, api.Ops{N: dec("1"), I: "1", V: 2, F: "0", T: "0"}},
		{"1.3", 0, api.Ops{N: dec("1.3"), I: "1", V: 1, W: 1, F: "3", T: "3"}},
		{"1.30", 0, api.Ops{N: dec("1.3"), I: "1", V: 2, W: 1, F: "30", T: "3"}},
		{"1.03", 0, api.Ops{N: dec("1.03"), I: "1", V: 2, W: 2, F: "3", T: "3"}},
		{"1.230", 0, api.Ops{N: dec("1.23"), I: "1", V: 3, W: 2, F: "230", T: "23"}},
		{"-1.230", 0, api.Ops{N: dec("1.23"), I: "1", V: 3, W: 2, F: "230", T: "23"}},
		{"10", 0, api.Ops{N: dec("10"), I: "10", F: "0", T: "0"}},
		{"10.0100", 0, api.Ops{N: dec("10.01"), I: "10", V: 4, W: 2, F: "100", T: "1"}},
		{"1200000", 0, api.Ops{N: dec("1200000"), I: "1200000", F: "0", T: "0"}},
		{"123", 6, api.Ops{N: dec("123000000"), I: "123000000", F: "0", T: "0", E: 6}},
		{"123", 5, api.Ops{N: dec("12300000"), I: "12300000", F: "0", T: "0", E: 5}},
		{"1200.50", 0, api.Ops{N: dec("1200.5"), I: "1200", V: 2, W: 1, F: "50", T: "5"}},
		{"1.20050", 3, api.Ops{N: dec("1200.5"), I: "1200", V: 2, W: 1, F: "50", T: "5", E: 3}},
		{"-0.0120", 1, api.Ops{N: dec("0.12"), I: "0", V: 3, W: 2, F: "120", T: "12", E: 1}},
		{"0.0120", 2, api.Ops{N: dec("1.2"), I: "1", V: 2, W: 1, F: "20", T: "2", E: 2}},
		{"0.00", 40, api.Ops{N: dec("0"), I: "0", F: "0", T: "0", E: 40}},
		{"0." + repeat("0", 38) + "1", 40, api.Ops{N: dec("10"), I: "10", F: "0", T: "0", E: 40}},
		{"1", 39, api.Ops{N: dec("1" + repeat("0", 39)), I: "1" + repeat("0", 39), F: "0", T: "0", E: 39}},
		{"0." + repeat("0", 38) + "1", 0, api.Ops{N: dec("0." + repeat("0", 38) + "1"), I: "0", V: 39, W: 39, F: "1", T: "1"}},
		{"1." + repeat("0", 39), 0, api.Ops{N: dec("1"), I: "1", V: 39, F: "0", T: "0"}},
		{repeat("9", 40), 0, api.Ops{N: dec(repeat("9", 40)), I: repeat("9", 40), F: "0", T: "0"}},
	} {
		if got, e := operand.Of(dec(x.d), x.exp); got != x.want || e != api.OK {
			t.Errorf("Of(%s, %d): %v %d, want %v", x.d, x.exp, got, e, x.want)
		}
	}
}

// TestOfSamples: P4.1, with each exponent.
func TestOfSamples(t *testing.T) {
	for _, text := range samples() {
		for exp := range 41 {
			want, wantErrno := wantOps(text, exp), api.OK
			if isLong(wantShown(text, exp)) {
				want, wantErrno = api.Ops{}, api.ErrBound
			}
			if got, e := operand.Of(dec(text), exp); got != want || e != wantErrno {
				t.Errorf("Of(%s, %d): %v %d, want %v %d", text, exp, got, e, want, wantErrno)
			}
		}
	}
}

// TestOfErrors: P4.1, first ErrDecimal, then ErrArg, then ErrBound.
func TestOfErrors(t *testing.T) {
	refused := func(d api.Dec, exp int, want api.Errno) {
		t.Helper()
		if got, e := operand.Of(d, exp); got != (api.Ops{}) || e != want {
			t.Errorf("Of(%s, %d): %v %d, want error %d", clip(d), exp, got, e, want)
		}
	}
	for _, d := range wrongDecs() {
		for _, exp := range append([]int{0, 1, 40}, beyond...) {
			refused(d, exp, api.ErrDecimal)
		}
	}
	for _, text := range []string{"1.2", "0", "0.0", "-5", repeat("9", 40), "-" + repeat("9", 40), "0." + repeat("0", 38) + "1"} {
		for _, exp := range beyond {
			refused(dec(text), exp, api.ErrArg)
		}
	}
	for _, text := range []string{"1", "-1", "1.5", "9.99", "0.1", repeat("9", 40), repeat("9", 39) + ".9"} {
		if isLong(wantShown(text, 40)) {
			refused(dec(text), 40, api.ErrBound)
		}
	}
	refused(dec("1"), 40, api.ErrBound)
	refused(dec("10"), 39, api.ErrBound)
	refused(dec(repeat("9", 40)), 1, api.ErrBound)
	refused(dec(repeat("9", 39)+".9"), 2, api.ErrBound)
}

// TestCheck: P4.1, all operands that there are by the definition, at the edges of each field.
func TestCheck(t *testing.T) {
	if e := operand.Check(mustOf(t, "21.5")); e != api.OK {
		t.Errorf("Check of the operands of 21.5: %d", e)
	}
	for _, o := range operands() {
		for exp := range 41 {
			o.E = exp
			if e := operand.Check(o); e != api.OK {
				t.Errorf("Check(%v): %d", o, e)
			}
		}
	}
	for _, text := range []string{"0", "7", "21.5", "0.05", repeat("9", 20), repeat("9", 39), repeat("9", 20) + "." + repeat("9", 20)} {
		d := dec(text)
		for v := len(d.Frac); v <= 40-len(d.Int); v++ {
			d.Frac += repeat("0", v-len(d.Frac))
			if e := operand.Check(wantOps(textOf(d), 0)); e != api.OK {
				t.Errorf("Check of the operands of %s: %d", textOf(d), e)
			}
		}
		d.Frac += "0"
		if e := operand.Check(wantOps(textOf(d), 0)); e != api.ErrOperand {
			t.Errorf("Check of the operands of %s: %d", textOf(d), e)
		}
	}
}

// TestCheckOfAltered: P4.1.
func TestCheckOfAltered(t *testing.T) {
	for _, o := range altered() {
		want := api.ErrOperand
		if isValid(o) {
			want = api.OK
		}
		if e := operand.Check(o); e != want {
			t.Errorf("Check(%s): %d, want %d", clip(o), e, want)
		}
	}
}

// TestGet: P4.2, written out.
func TestGet(t *testing.T) {
	of := func(text string, exp int) api.Ops {
		o, e := operand.Of(dec(text), exp)
		if e != api.OK {
			t.Fatalf("Of(%s, %d): error %d", text, exp, e)
		}
		return o
	}
	for _, x := range []struct {
		o    api.Ops
		want [8]string // in the order of letters
	}{
		{of("21.5", 0), [8]string{"21.5", "21", "1", "1", "5", "5", "0", "0"}},
		{of("-1.0300", 0), [8]string{"1.03", "1", "4", "2", "300", "3", "0", "0"}},
		{of("1.2", 6), [8]string{"1200000", "1200000", "0", "0", "0", "0", "6", "6"}},
		{of("0.00", 40), [8]string{"0", "0", "0", "0", "0", "0", "40", "40"}},
		{of("5."+repeat("0", 39), 0), [8]string{"5", "5", "39", "0", "0", "0", "0", "0"}},
		{of("0."+repeat("1", 39), 12), [8]string{repeat("1", 12) + "." + repeat("1", 27), repeat("1", 12), "27", "27", repeat("1", 27), repeat("1", 27), "12", "12"}},
	} {
		for at, letter := range letters {
			if got, e := operand.Get(x.o, letter); got != dec(x.want[at]) || e != api.OK {
				t.Errorf("Get(%v, %s): %v %d, want %s", x.o, letter, got, e, x.want[at])
			}
		}
	}
	for _, o := range operands() {
		for _, letter := range letters {
			if got, e := operand.Get(o, letter); got != dec(wantGet(o, letter)) || e != api.OK {
				t.Errorf("Get(%v, %s): %v %d, want %s", o, letter, got, e, wantGet(o, letter))
			}
		}
	}
}

// TestGetErrors: P4.2.
func TestGetErrors(t *testing.T) {
	refused := func(o api.Ops, letter string) {
		t.Helper()
		if got, e := operand.Get(o, letter); got != (api.Dec{}) || e != api.ErrOperand {
			t.Errorf("Get(%s, %.60q): %v %d", clip(o), letter, got, e)
		}
	}
	for _, letter := range wrongLetters {
		refused(mustOf(t, "21.5"), letter)
		refused(mustOf(t, "0"), letter)
	}
	for _, o := range notValid() {
		for _, letter := range append(letters, "", "x") {
			refused(o, letter)
		}
	}
}
