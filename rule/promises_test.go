package rule_test

import (
	"math/rand"
	"strings"
	"testing"

	"idiom/api"
	"idiom/rule"
)

// The promise Rl4, in its words, by the calls alone.

// roundTrip asks that Parse inverts Print, and returns the text.
func roundTrip(t *testing.T, r api.Rule) string {
	t.Helper()
	text, e := rule.Print(r)
	if e != api.OK {
		t.Fatalf("Print(%s): error %d", clip(r), e)
	}
	parsed(t, text, r)
	return text
}

// TestParseInvertsPrint: Rl4, for valid rules.
func TestParseInvertsPrint(t *testing.T) {
	random := rand.New(rand.NewSource(57))
	for range 20000 {
		roundTrip(t, anyRule(random))
	}
	for _, size := range []int{100, 1000, 10000, 65535, 65536} {
		roundTrip(t, longRule(size))
	}
	for _, op := range letters {
		for _, mod := range []string{"", "1", "10", repeat("9", 40)} {
			for _, not := range []bool{false, true} {
				for _, within := range []bool{false, true} {
					for _, list := range []string{"0", "1", "0..1", "1,2", "1..3,5", "3,2..9", repeat("1,2..3,", 31) + "0..0,5", "0.." + repeat("9", 40)} {
						roundTrip(t, oneOf(api.Rel{Op: op, Mod: mod, Not: not, Within: within, List: spansOf(list)}))
					}
				}
			}
		}
	}
	for _, ints := range []string{"0", "0~1", "1c1", "1,2c20,3~4", "9~10,8~9"} {
		for _, decs := range []string{"0.0", "0.0~0.1", "1.0c1", "1.0,2.00c20,3.000~4.000"} {
			for more := range 4 {
				a, b := samplesOf(ints), samplesOf(decs)
				roundTrip(t, api.Rule{Ints: a, IntMore: more&1 > 0, Decs: b, DecMore: more&2 > 0})
				roundTrip(t, api.Rule{Ints: a, IntMore: more > 1})
				roundTrip(t, api.Rule{Decs: b, DecMore: more > 1})
			}
		}
	}
}

// TestCanonicalText: Rl4, the canonical text of a rule that Parse returned yields the same rule, and the same text.
func TestCanonicalText(t *testing.T) {
	random := rand.New(rand.NewSource(58))
	for range 10000 {
		r := mustParse(t, anyText(random, anyRule(random)))
		text := roundTrip(t, r)
		if again := roundTrip(t, mustParse(t, text)); again != text {
			t.Errorf("printed as %q, and then as %q", text, again)
		}
	}
	for _, text := range standard {
		if got := roundTrip(t, mustParse(t, text)); got != text {
			t.Errorf("%q is printed as %q", text, got)
		}
	}
}

// TestKeywordsAndOperators: Rl4, the old keywords and the operators are equivalent.
func TestKeywordsAndOperators(t *testing.T) {
	for _, mod := range []string{"", " % 10", " % 100"} {
		for _, x := range []struct {
			spellings []string
			lists     string
		}{
			{[]string{"=", "in", "is"}, "0 7 100"},
			{[]string{"!=", "not in", "is not"}, "0 7 100"},
			{[]string{"=", "in"}, "0..7 1,2 1..3,5"},
			{[]string{"!=", "not in"}, "0..7 1,2 1..3,5"},
		} {
			for _, list := range strings.Fields(x.lists) {
				want := mustParse(t, "n"+mod+" "+x.spellings[0]+" "+list)
				for _, spelling := range x.spellings {
					text := "n" + mod + " " + spelling + " " + list
					parsed(t, text, want)
					parsed(t, strings.Replace(text, "%", "mod", 1), want)
				}
			}
		}
	}
	for _, op := range letters {
		parsed(t, op+" mod 3 is not 2", mustParse(t, op+" % 3 != 2"))
	}
	parsed(t, "@integer 1e6, 2e7, ... @decimal 1.0e3", mustParse(t, "@integer 1c6, 2c7, \u2026 @decimal 1.0c3"))
}
