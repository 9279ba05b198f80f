package decimal_test

import (
	"math"
	"math/rand"
	"strings"
	"testing"
	"unsafe"

	"idiom/api"
	"idiom/decimal"
)

// unary is the calls on one decimal, with numbers beside it that are in range.
var unary = []struct {
	name string
	call func(d api.Dec) (api.Dec, api.Errno)
}{
	{"Trim", decimal.Trim},
	{"Pad", func(d api.Dec) (api.Dec, api.Errno) { return decimal.Pad(d, 2) }},
	{"Pad by 0", func(d api.Dec) (api.Dec, api.Errno) { return decimal.Pad(d, 0) }},
	{"Shift", func(d api.Dec) (api.Dec, api.Errno) { return decimal.Shift(d, 1) }},
	{"Shift by 0", func(d api.Dec) (api.Dec, api.Errno) { return decimal.Shift(d, 0) }},
	{"Shift back", func(d api.Dec) (api.Dec, api.Errno) { return decimal.Shift(d, -1) }},
}

// TestWrongDecimals: R2, each call refuses what Check refuses, at each of its arguments and ahead of all other errors.
func TestWrongDecimals(t *testing.T) {
	for _, d := range wrong() {
		refused := func(name string, zero bool, e api.Errno) {
			t.Helper()
			if !zero || e != api.ErrDecimal {
				t.Errorf("%s with %.60v: %d, or a result beside the error", name, d, e)
			}
		}
		for _, other := range append(decs("0", "1.5", "-3", "0.00", repeat("9", 40)), d, api.Dec{}) {
			for _, x := range operations {
				got, e := x.call(d, other)
				refused(x.name, got == api.Dec{}, e)
				got, e = x.call(other, d)
				refused(x.name, got == api.Dec{}, e)
			}
			order, e := decimal.Compare(d, other)
			refused("Compare", order == 0, e)
			order, e = decimal.Compare(other, d)
			refused("Compare", order == 0, e)
		}
		for _, x := range unary {
			got, e := x.call(d)
			refused(x.name, got == api.Dec{}, e)
		}
		for _, n := range append([]int{-40, -1, 0, 1, 40}, beyond...) {
			got, e := decimal.Pad(d, n)
			refused("Pad", got == api.Dec{}, e)
			got, e = decimal.Shift(d, n)
			refused("Shift", got == api.Dec{}, e)
		}
		n, e := decimal.Int64(d)
		refused("Int64", n == 0, e)
		text, e := decimal.Print(d)
		refused("Print", text == "", e)
	}
}

// TestResultsAreValid: whatever is handed in, each call answers a valid decimal, or an error and nothing beside it; and the same when it is asked again (R1, R2, R4).
func TestResultsAreValid(t *testing.T) {
	random := rand.New(rand.NewSource(30))
	text := func() string {
		b := make([]byte, random.Intn(24))
		for at := range b {
			b[at] = "0000123456789999.-x\xff"[random.Intn(20-4*random.Intn(2))]
		}
		return string(b)
	}
	number := func() int {
		switch random.Intn(3) {
		case 0:
			return random.Intn(90) - 45
		case 1:
			return beyond[random.Intn(len(beyond))]
		}
		return int(random.Uint64())
	}
	check := func(name string, call func() (api.Dec, api.Errno)) {
		t.Helper()
		got, e := call()
		if again, e2 := call(); again != got || e2 != e {
			t.Errorf("%s: another answer the second time", name)
		}
		if e == api.OK && !isValid(got) || e != api.OK && got != (api.Dec{}) {
			t.Errorf("%s: %v %d", name, got, e)
		}
	}
	for range 20000 {
		a, b := api.Dec{Neg: random.Intn(2) == 0, Int: text(), Frac: text()}, api.Dec{Neg: random.Intn(2) == 0, Int: text(), Frac: text()}
		n, s := number(), text()
		for _, x := range operations {
			check(x.name, func() (api.Dec, api.Errno) { return x.call(a, b) })
		}
		check("Trim", func() (api.Dec, api.Errno) { return decimal.Trim(a) })
		check("Pad", func() (api.Dec, api.Errno) { return decimal.Pad(a, n) })
		check("Shift", func() (api.Dec, api.Errno) { return decimal.Shift(a, n) })
		check("Parse", func() (api.Dec, api.Errno) { return decimal.Parse(s) })
		check("Of", func() (api.Dec, api.Errno) { return decimal.Of(int64(n)), api.OK })
	}
	check("Of", func() (api.Dec, api.Errno) { return decimal.Of(math.MinInt64), api.OK })
}

// within tells whether a text lies in the memory of another one.
func within(s, memory string) bool {
	if s == "" || memory == "" {
		return false
	}
	at, begin := uintptr(unsafe.Pointer(unsafe.StringData(s))), uintptr(unsafe.Pointer(unsafe.StringData(memory)))
	return begin <= at && at < begin+uintptr(len(memory))
}

// TestResultsAreNewMemory: R3.
func TestResultsAreNewMemory(t *testing.T) {
	memory := strings.Clone("-123456.1234567890")
	d := api.Dec{Neg: true, Int: memory[1:7], Frac: memory[8:]}
	fresh := func(name string, got api.Dec, e api.Errno) {
		t.Helper()
		if e != api.OK || within(got.Int, memory) || within(got.Frac, memory) {
			t.Errorf("%s: %d, or a result that shares memory with an argument", name, e)
		}
	}
	got, e := decimal.Parse(memory)
	fresh("Parse", got, e)
	for _, x := range unary {
		got, e := x.call(d)
		fresh(x.name, got, e)
	}
	for _, x := range operations[:2] {
		got, e := x.call(d, dec("0"))
		fresh(x.name, got, e)
	}
	got, e = decimal.Mul(d, dec("1"))
	fresh("Mul", got, e)
	got, e = decimal.Rem(d, dec("1000000"))
	fresh("Rem", got, e)
	whole := api.Dec{Int: memory[1:7]}
	got, e = decimal.Div(whole, dec("1"))
	fresh("Div", got, e)
	if text, e := decimal.Print(whole); e != api.OK || within(text, memory) {
		t.Errorf("Print: %d, or a text that shares memory with its argument", e)
	}
	if memory != "-123456.1234567890" {
		t.Error("an argument was changed")
	}
}
