package digits_test

import (
	"math/rand"
	"strings"
	"testing"
	"unsafe"

	"idiom/api"
	"idiom/digits"
)

// TestAnyDigits: whatever is handed in, Render answers what the chapter says (R1, R2), and the same when it is asked again (R4).
func TestAnyDigits(t *testing.T) {
	random := rand.New(rand.NewSource(93))
	counts := map[api.Errno]int{}
	for range 20000 {
		name, s := one(random, names), anyDigits(random, 30)
		if random.Intn(3) == 0 {
			at := random.Intn(len(s) + 1)
			s = s[:at] + string([]byte{byte(random.Intn(256))}) + s[at:]
		}
		if random.Intn(50) == 0 {
			name = one(random, noNames)
		}
		want, e := wantRender(name, s)
		counts[e]++
		for range 2 {
			if got, e2 := digits.Render(name, s); got != want || e2 != e {
				t.Fatalf("Render(%s, %q): %q, %d, want %q, %d", clip(name), s, got, e2, want, e)
			}
		}
	}
	if counts[api.OK] < 5000 || counts[api.ErrDigit] < 1000 || counts[api.ErrSystem] < 200 {
		t.Errorf("too few: %v", counts)
	}
}

// shares tells whether two texts have bytes of one memory.
func shares(a, b string) bool {
	x, y := uintptr(unsafe.Pointer(unsafe.StringData(a))), uintptr(unsafe.Pointer(unsafe.StringData(b)))
	return a != "" && b != "" && x < y+uintptr(len(b)) && y < x+uintptr(len(a))
}

// TestResultsAreNewMemory: R3, no result shares memory with an argument, nor with the result of another call.
func TestResultsAreNewMemory(t *testing.T) {
	for _, name := range names {
		s := strings.Clone("0123456789")
		text, e := digits.Render(name, s)
		again, e2 := digits.Render(name, s)
		back, _, e3 := digits.Read(name, text)
		if e != api.OK || e2 != api.OK || e3 != api.OK {
			t.Fatalf("%s: %d %d %d", name, e, e2, e3)
		}
		if shares(text, s) || shares(text, again) || shares(back, text) || shares(back, s) {
			t.Errorf("%s: results share memory", name)
		}
	}
	for _, small := range []bool{false, true} {
		text, _ := digits.Roman(3888, small)
		again, _ := digits.Roman(3888, small)
		if shares(text, again) {
			t.Errorf("numerals share memory")
		}
	}
}

// TestErrorsLeaveNoTrace: R7, a call that returns an error has no effect on a later one.
func TestErrorsLeaveNoTrace(t *testing.T) {
	for _, name := range names {
		unrendered(t, name, "123x", api.ErrDigit)
		rendered(t, name, "45", written(name, "45"))
		unread(t, name, "x", api.ErrDigit)
		read(t, name, written(name, "67")+"x", "67", len(written(name, "67")))
	}
	unroman(t, 4000)
	roman(t, 3999, false, "MMMCMXCIX")
	unfromRoman(t, "MMMM")
	fromRoman(t, "MMMCMXCIX", 3999)
}
