package round_test

import (
	"math"
	"testing"

	"idiom/api"
	"idiom/round"
)

// wrongModes is numbers of no mode.
var wrongModes = []int{0, -1, -2, -8, 9, 10, 16, 30, 255, 256, 257, 263, 1 << 32, 1<<32 + 1, math.MaxInt, math.MinInt, math.MinInt + 1, math.MaxInt - 1}

// TestNames: Ro5, both ways.
func TestNames(t *testing.T) {
	for at, name := range []string{"up", "down", "ceiling", "floor", "half-up", "half-down", "half-even", "none"} {
		if got, e := round.Name(modes[at]); got != name || e != api.OK {
			t.Errorf("Name(%d): %q %d, want %q", modes[at], got, e, name)
		}
		if got, e := round.ByName(name); got != modes[at] || e != api.OK {
			t.Errorf("ByName(%q): %d %d, want %d", name, got, e, modes[at])
		}
	}
	if got, e := round.Name(api.RoundHalfEven); got != "half-even" || e != api.OK {
		t.Errorf("Name of half-even: %q %d", got, e)
	}
	if got, e := round.ByName("floor"); got != api.RoundFloor || e != api.OK {
		t.Errorf("ByName of floor: %d %d", got, e)
	}
}

// TestWrongNames: Ro5.
func TestWrongNames(t *testing.T) {
	for _, mode := range wrongModes {
		if got, e := round.Name(mode); got != "" || e != api.ErrMode {
			t.Errorf("Name(%d): %q %d", mode, got, e)
		}
	}
	for _, s := range []string{"", " ", "Up", "UP", "up ", " up", "u", "upp", "up\x00", "down\n", "ceil", "half", "half-", "half_up", "halfup", "half up", "half-even-", "half-eve", "HALF-EVEN", "half-odd", "None", "non", "nothing", "1", "7", "-", "\xff", "half\u2010up", repeat("up", 40000), "none" + repeat(" ", 1<<17), repeat("x", 1<<21)} {
		if got, e := round.ByName(s); got != 0 || e != api.ErrMode {
			t.Errorf("ByName(%.40q of %d bytes): %d %d", s, len(s), got, e)
		}
	}
}
