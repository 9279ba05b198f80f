package round_test

import (
	"math"
	"math/rand"
	"strings"
	"testing"
	"unsafe"

	"idiom/api"
	"idiom/round"
)

// beyond is numbers of digits that no call accepts.
var beyond = []int{-1, -2, -40, -41, 41, 42, 80, 1 << 32, -(1 << 32), 1<<32 + 1, math.MaxInt, math.MinInt, math.MaxInt - 1, math.MinInt + 1}

// refused tells when a call does not answer this error alone.
func refused(t *testing.T, name string, got result, want api.Errno) {
	t.Helper()
	if got != (result{e: want}) {
		t.Errorf("%s: %v %d, want error %d", name, got.d, got.e, want)
	}
}

// TestWrongDecimals: R2, what decimal.Check refuses is refused ahead of all other errors; a step, right behind those of d and of the mode.
func TestWrongDecimals(t *testing.T) {
	for _, d := range wrong() {
		for _, mode := range append(modes, wrongModes...) {
			for _, n := range append([]int{0, 1, 40}, beyond...) {
				refused(t, "Places", answer(round.Places(d, mode, n)), api.ErrDecimal)
				refused(t, "Fix", answer(round.Fix(d, mode, n, n)), api.ErrDecimal)
				refused(t, "Significant", answer(round.Significant(d, mode, n, n)), api.ErrDecimal)
			}
			for _, step := range []api.Dec{dec("1"), dec("0"), dec("-1"), {}} {
				refused(t, "Step", answer(round.Step(d, mode, step)), api.ErrDecimal)
			}
		}
		for _, mode := range modes {
			refused(t, "Step by a wrong one", answer(round.Step(dec("1.5"), mode, d)), api.ErrDecimal)
		}
		for _, mode := range wrongModes {
			refused(t, "Step by a wrong one", answer(round.Step(dec("1.5"), mode, d)), api.ErrMode)
		}
	}
}

// TestWrongModes: R2, a mode that does not exist is refused ahead of all other numbers.
func TestWrongModes(t *testing.T) {
	for _, d := range []api.Dec{dec("0"), dec("2"), dec("-2.5"), dec(repeat("9", 40))} {
		for _, mode := range wrongModes {
			for _, n := range append([]int{0, 1, 40}, beyond...) {
				refused(t, "Places", answer(round.Places(d, mode, n)), api.ErrMode)
				refused(t, "Fix", answer(round.Fix(d, mode, n, n)), api.ErrMode)
				refused(t, "Significant", answer(round.Significant(d, mode, n, n)), api.ErrMode)
			}
			for _, step := range []string{"1", "0.05", "0", "0.00", "-1"} {
				refused(t, "Step", answer(round.Step(d, mode, dec(step))), api.ErrMode)
			}
		}
	}
}

// TestRanges: ErrArg, also where the number would not have to be rounded, and ahead of ErrInexact and ErrBound.
func TestRanges(t *testing.T) {
	for _, d := range []api.Dec{dec("0"), dec("2"), dec("-2.5"), dec("1." + repeat("3", 39)), dec(repeat("9", 40))} {
		for _, mode := range modes {
			for _, n := range beyond {
				refused(t, "Places", answer(round.Places(d, mode, n)), api.ErrArg)
				for _, other := range append([]int{0, 1, 40}, beyond...) {
					refused(t, "Fix", answer(round.Fix(d, mode, n, other)), api.ErrArg)
					refused(t, "Fix", answer(round.Fix(d, mode, other, n)), api.ErrArg)
					refused(t, "Significant", answer(round.Significant(d, mode, n, other)), api.ErrArg)
					refused(t, "Significant", answer(round.Significant(d, mode, other, n)), api.ErrArg)
				}
			}
			for most := range 41 {
				refused(t, "Significant", answer(round.Significant(d, mode, 0, most)), api.ErrArg)
				for least := most + 1; least <= 41; least++ {
					refused(t, "Fix", answer(round.Fix(d, mode, least, most)), api.ErrArg)
					refused(t, "Significant", answer(round.Significant(d, mode, least, most)), api.ErrArg)
				}
			}
			for _, step := range []string{"0", "0.0", "0." + repeat("0", 39), "-1", "-0.05", "-" + repeat("9", 40)} {
				refused(t, "Step", answer(round.Step(d, mode, dec(step))), api.ErrArg)
			}
		}
	}
}

// TestEveryRange: each number of digits that the chapter permits is accepted.
func TestEveryRange(t *testing.T) {
	for most := range 41 {
		if got := answer(round.Places(dec("7"), api.RoundNone, most)); got != expected("7") {
			t.Errorf("Places(7, none, %d): %v", most, got)
		}
		for least := range most + 1 {
			if got, want := answer(round.Fix(dec("7"), api.RoundNone, least, most)), answer(wantFix(dec("7"), api.RoundNone, least, most)); got != want {
				t.Errorf("Fix(7, none, %d, %d): %v, want %v", least, most, got, want)
			}
			if least == 0 {
				continue
			}
			if got, want := answer(round.Significant(dec("7"), api.RoundNone, least, most)), answer(wantSignificant(dec("7"), api.RoundNone, least, most)); got != want {
				t.Errorf("Significant(7, none, %d, %d): %v, want %v", least, most, got, want)
			}
		}
	}
}

// TestAnyArguments: whatever is handed in, each call answers a valid decimal, or an error and nothing beside it; and the same when it is asked again (R1, R2, R4).
func TestAnyArguments(t *testing.T) {
	random := rand.New(rand.NewSource(30))
	text := func() string {
		b := make([]byte, random.Intn(24))
		for at := range b {
			b[at] = "0000123456789999.-x\xff"[random.Intn(20-4*random.Intn(2))]
		}
		return string(b)
	}
	valid := randomDecs(31, 1000, 40)
	some := func() api.Dec {
		if random.Intn(2) == 0 {
			return valid[random.Intn(len(valid))]
		}
		return api.Dec{Neg: random.Intn(2) == 0, Int: text(), Frac: text()}
	}
	number := func() int {
		if random.Intn(4) == 0 {
			return int(random.Uint64())
		}
		return random.Intn(45) - 2
	}
	check := func(name string, call func() (api.Dec, api.Errno)) {
		t.Helper()
		got := answer(call())
		if again := answer(call()); again != got {
			t.Errorf("%s: another answer the second time", name)
		}
		if got.e == api.OK && !isValid(got.d) || got.e != api.OK && got.d != (api.Dec{}) {
			t.Errorf("%s: %v %d", name, got.d, got.e)
		}
	}
	for range 20000 {
		d, step, mode, n, m := some(), some(), random.Intn(10), number(), number()
		check("Places", func() (api.Dec, api.Errno) { return round.Places(d, mode, n) })
		check("Fix", func() (api.Dec, api.Errno) { return round.Fix(d, mode, n, m) })
		check("Significant", func() (api.Dec, api.Errno) { return round.Significant(d, mode, n, m) })
		check("Step", func() (api.Dec, api.Errno) { return round.Step(d, mode, step) })
	}
}

// within tells whether a text lies in the memory of another one.
func within(s, memory string) bool {
	if s == "" || memory == "" {
		return false
	}
	at, begin := uintptr(unsafe.Pointer(unsafe.StringData(s))), uintptr(unsafe.Pointer(unsafe.StringData(memory)))
	return begin <= at && at < begin+uintptr(len(memory))
}

// TestResultsAreNewMemory: R3.
func TestResultsAreNewMemory(t *testing.T) {
	memory := strings.Clone("-123456.1234567800")
	d := api.Dec{Neg: true, Int: memory[1:7], Frac: memory[8:]}
	stepMemory := strings.Clone("123456.1234567800")
	step := api.Dec{Int: stepMemory[:6], Frac: stepMemory[7:]}
	for _, mode := range modes[:7] {
		for name, call := range map[string]func() (api.Dec, api.Errno){
			"Places":              func() (api.Dec, api.Errno) { return round.Places(d, mode, 3) },
			"Places of as many":   func() (api.Dec, api.Errno) { return round.Places(d, mode, 10) },
			"Places of more":      func() (api.Dec, api.Errno) { return round.Places(d, mode, 40) },
			"Fix":                 func() (api.Dec, api.Errno) { return round.Fix(d, mode, 1, 3) },
			"Fix of as many":      func() (api.Dec, api.Errno) { return round.Fix(d, mode, 10, 10) },
			"Fix of fewer":        func() (api.Dec, api.Errno) { return round.Fix(d, mode, 1, 20) },
			"Fix of more":         func() (api.Dec, api.Errno) { return round.Fix(d, mode, 11, 20) },
			"Significant":         func() (api.Dec, api.Errno) { return round.Significant(d, mode, 1, 3) },
			"Significant, many":   func() (api.Dec, api.Errno) { return round.Significant(d, mode, 16, 16) },
			"Significant, fewer":  func() (api.Dec, api.Errno) { return round.Significant(d, mode, 1, 40) },
			"Significant, more":   func() (api.Dec, api.Errno) { return round.Significant(d, mode, 20, 40) },
			"Step":                func() (api.Dec, api.Errno) { return round.Step(d, mode, dec("0.5")) },
			"Step of d's own":     func() (api.Dec, api.Errno) { return round.Step(d, mode, step) },
			"Step of a small one": func() (api.Dec, api.Errno) { return round.Step(dec("1"), mode, step) },
		} {
			got := answer(call())
			if got.e != api.OK || within(got.d.Int, memory) || within(got.d.Frac, memory) || within(got.d.Int, stepMemory) || within(got.d.Frac, stepMemory) {
				t.Errorf("%s by mode %d: %v, or a result that shares memory with an argument", name, mode, got)
			}
		}
	}
	if memory != "-123456.1234567800" || stepMemory != "123456.1234567800" {
		t.Error("an argument was changed")
	}
}
