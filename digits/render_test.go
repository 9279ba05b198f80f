package digits_test

import (
	"math/rand"
	"strconv"
	"testing"

	"idiom/api"
)

// TestRenderExamples: the examples of the chapter.
func TestRenderExamples(t *testing.T) {
	rendered(t, "deva", "2024", "\u0968\u0966\u0968\u096a")
	unrendered(t, "latn", "1a", api.ErrDigit)
}

// TestRender: P8.2, digits with each digit replaced by that of the system.
func TestRender(t *testing.T) {
	random := rand.New(rand.NewSource(86))
	for _, name := range names {
		for digit, text := range scripts[name] {
			rendered(t, name, strconv.Itoa(digit), text)
		}
		for _, s := range []string{"", "0", "00", "007", "0123456789", "9876543210", "11111", repeat("9", 40), repeat("5", 1000)} {
			rendered(t, name, s, written(name, s))
		}
		for range 50 {
			s := anyDigits(random, 30)
			rendered(t, name, s, written(name, s))
		}
	}
}

// TestRenderOtherBytes: P8.2, ErrDigit if one of the bytes is not one of 0 to 9, wherever it stands.
func TestRenderOtherBytes(t *testing.T) {
	for b := range 256 {
		if '0' <= b && b <= '9' {
			continue
		}
		other := string([]byte{byte(b)})
		for _, name := range names {
			for _, s := range []string{other, "1" + other, other + "1", "12" + other + "3", other + other} {
				unrendered(t, name, s, api.ErrDigit)
			}
		}
	}
	for _, s := range []string{"-1", "+1", "1.0", "1,000", " 1", "1 ", "1\n", "\u0661", "1\u0968", "\uff11", "\u3007", "1e3", "\u00b2"} {
		for _, name := range names {
			unrendered(t, name, s, api.ErrDigit)
		}
	}
	unrendered(t, "deva", written("deva", "12"), api.ErrDigit)
}

// TestRenderErrorsInOrder: P8.2, ErrSystem, then ErrLong, if digits has more than MaxText bytes, then ErrDigit.
func TestRenderErrorsInOrder(t *testing.T) {
	const most = 65536
	for _, name := range noNames {
		for _, s := range []string{"", "1", "1a", repeat("1", most+1), repeat("a", most+1)} {
			unrendered(t, name, s, api.ErrSystem)
		}
	}
	for _, name := range names {
		for _, s := range []string{repeat("1", most+1), repeat("a", most+1), "a" + repeat("1", most), repeat("1", 1<<20+1)} {
			unrendered(t, name, s, api.ErrLong)
		}
		unrendered(t, name, repeat("1", most-1)+"a", api.ErrDigit)
		unrendered(t, name, "a"+repeat("1", most-1), api.ErrDigit)
		rendered(t, name, repeat("7", most), repeat(scripts[name][7], most))
	}
}
