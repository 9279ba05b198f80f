package digits_test

import (
	"slices"
	"strings"
	"testing"
	"unicode/utf8"

	"idiom/api"
	"idiom/digits"
)

// TestSystems: P8.1, the names of all numbering systems in ascending order of their bytes.
func TestSystems(t *testing.T) {
	got := digits.Systems()
	if !slices.Equal(got, names) {
		t.Errorf("Systems: %q, want %q", got, names)
	}
	const all = "arab arabext beng deva fullwide gujr guru hanidec khmr knda laoo latn limb mlym mymr orya tamldec telu thai tibt"
	if told := strings.Join(got, " "); told != all {
		t.Errorf("Systems: %q, want %q", told, all)
	}
	if len(got) != 20 || got[0] != "arab" || got[19] != "tibt" {
		t.Errorf("Systems: %d names, %q", len(got), got)
	}
}

// TestSystemsAgain: the order does not hang on that of a map (R4), and the list is new each time (R3).
func TestSystemsAgain(t *testing.T) {
	for range 1000 {
		got := digits.Systems()
		if !slices.Equal(got, names) {
			t.Fatalf("Systems: %q", got)
		}
		for i := range got {
			got[i] = "x"
		}
		_ = append(got, "y")
	}
}

// TestZero: P8.1, the digit 0 of the system, or ErrSystem for names of any length.
func TestZero(t *testing.T) {
	for _, name := range names {
		want, _ := utf8.DecodeRuneInString(scripts[name][0])
		if got, e := digits.Zero(name); got != want || e != api.OK {
			t.Errorf("Zero(%s): %#x, %d, want %#x", name, got, e, want)
		}
		if got, e := digits.Zero(strings.ToUpper(name)); got != 0 || e != api.ErrSystem {
			t.Errorf("Zero of %s in upper case: %#x, %d", name, got, e)
		}
	}
	if got, e := digits.Zero("hanidec"); got != 0x3007 || e != api.OK {
		t.Errorf("Zero(hanidec): %#x, %d", got, e)
	}
	for _, name := range noNames {
		if got, e := digits.Zero(name); got != 0 || e != api.ErrSystem {
			t.Errorf("Zero(%s): %#x, %d", clip(name), got, e)
		}
	}
}

// TestZeroOfEachSystem: a name is that of a system exactly if Systems lists it.
func TestZeroOfEachSystem(t *testing.T) {
	for _, name := range digits.Systems() {
		zero, e := digits.Zero(name)
		if e != api.OK {
			t.Errorf("Zero(%s): %d", name, e)
		}
		rendered(t, name, "0", string(zero))
		read(t, name, string(zero), "0", utf8.RuneLen(zero))
	}
}
