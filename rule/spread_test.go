package rule_test

import (
	"math/big"
	"math/rand"
	"slices"
	"strconv"
	"strings"
	"testing"

	"idiom/api"
	"idiom/rule"
)

// spreads asks for the numbers of the samples of a rule.
func spreads(t *testing.T, r api.Rule, ints, decs []string) {
	t.Helper()
	gotInts, gotDecs, e := rule.Spread(r)
	if !slices.Equal(gotInts, ints) || !slices.Equal(gotDecs, decs) || e != api.OK {
		t.Errorf("Spread(%s): %s %s %d, want %s %s", clip(r), clip(gotInts), clip(gotDecs), e, clip(ints), clip(decs))
	}
}

// overfull asks for ErrFull of a valid rule.
func overfull(t *testing.T, r api.Rule) {
	t.Helper()
	if e := rule.Check(r); e != api.OK {
		t.Errorf("Check(%s): %d", clip(r), e)
	}
	if ints, decs, e := rule.Spread(r); ints != nil || decs != nil || e != api.ErrFull {
		t.Errorf("Spread(%s): %s %s %d", clip(r), clip(ints), clip(decs), e)
	}
}

// wantNumbers is the numbers of samples, by package math/big; nil and false if there are more than most.
func wantNumbers(list []api.Sample, most int) ([]string, bool) {
	var all []string
	for _, s := range list {
		if s.Lo == s.Hi {
			all = append(all, s.Lo)
			continue
		}
		places := placesOf(s.Lo)
		for n := bigOf(s.Lo); n.Cmp(bigOf(s.Hi)) <= 0 && len(all) <= most; n.Add(n, big.NewInt(1)) {
			text := n.String()
			text = repeat("0", max(0, places+1-len(text))) + text
			all = append(all, strings.TrimSuffix(text[:len(text)-places]+"."+text[len(text)-places:], "."))
		}
	}
	return all, len(all) <= most
}

// TestSpread: Rl3, written out.
func TestSpread(t *testing.T) {
	for _, x := range []struct{ text, ints, decs string }{
		{"", "", ""},
		{"n = 1", "", ""},
		{"@integer 0~2, 100 @decimal 0.0~0.2, 1.1c6", "0 1 2 100", "0.0 0.1 0.2 1.1c6"},
		{"n = 1 @integer 1", "1", ""},
		{"@decimal 1.50", "", "1.50"},
		{"@integer 3, 1~2, 1, \u2026", "3 1 2 1", ""},
		{"@integer 8~11, 98~101, 1c6, 2e20", "8 9 10 11 98 99 100 101 1c6 2c20", ""},
		{"@decimal 0.8~1.1, 9.9~10.1, 0.00~0.02, 0.98~1.01, 0.098~0.101, 99.99~100.00, \u2026", "", "0.8 0.9 1.0 1.1 9.9 10.0 10.1 0.00 0.01 0.02 0.98 0.99 1.00 1.01 0.098 0.099 0.100 0.101 99.99 100.00"},
		{"@integer 5~6 @decimal 5.0~5.1, 5.00e3", "5 6", "5.0 5.1 5.00c3"},
		{"@integer " + repeat("9", 39) + "8~" + repeat("9", 40), repeat("9", 39) + "8 " + repeat("9", 40), ""},
		{"@integer " + repeat("9", 39) + "~1" + repeat("0", 39), repeat("9", 39) + " 1" + repeat("0", 39), ""},
		{"@decimal 0." + repeat("0", 39) + "~0." + repeat("0", 38) + "2", "", "0." + repeat("0", 39) + " 0." + repeat("0", 38) + "1 0." + repeat("0", 38) + "2"},
		{"@decimal " + repeat("9", 38) + ".9~1" + repeat("0", 38) + ".1", "", repeat("9", 38) + ".9 1" + repeat("0", 38) + ".0 1" + repeat("0", 38) + ".1"},
		{"@integer " + repeat("9", 40) + "c20 @decimal 0." + repeat("0", 39) + "c20", repeat("9", 40) + "c20", "0." + repeat("0", 39) + "c20"},
	} {
		spreads(t, mustParse(t, x.text), strings.Fields(x.ints), strings.Fields(x.decs))
	}
}

// TestSpreadOfAnyRule: Rl3, by package math/big.
func TestSpreadOfAnyRule(t *testing.T) {
	random := rand.New(rand.NewSource(56))
	right, full := 0, 0
	for range 1200 {
		r := anyRule(random)
		ints, ok := wantNumbers(r.Ints, 1000)
		decs, ok2 := wantNumbers(r.Decs, 1000)
		if !ok || !ok2 || len(ints)+len(decs) > 1000 {
			full++
			overfull(t, r)
			continue
		}
		right++
		spreads(t, r, ints, decs)
	}
	for _, text := range standard {
		r := mustParse(t, text)
		ints, _ := wantNumbers(r.Ints, 1000)
		decs, _ := wantNumbers(r.Decs, 1000)
		spreads(t, r, ints, decs)
	}
	if right < 200 || full < 200 {
		t.Errorf("tried only %d rules with few numbers, %d with many", right, full)
	}
}

// TestSpreadOfAllRanges: Rl3, of each range of short numbers.
func TestSpreadOfAllRanges(t *testing.T) {
	texts := func(places, count int) []string {
		var all []string
		for n := range count {
			text := strconv.Itoa(n)
			if places > 0 {
				text = repeat("0", max(0, places+1-len(text))) + text
				text = text[:len(text)-places] + "." + text[len(text)-places:]
			}
			all = append(all, text)
		}
		return all
	}
	for places := range 4 {
		all := texts(places, 130)
		for from := range 129 {
			for to := from + 1; to < 130; to += 7 {
				samples := []api.Sample{{Lo: all[from], Hi: all[to]}}
				if places == 0 {
					spreads(t, api.Rule{Ints: samples}, all[from:to+1], nil)
				} else {
					spreads(t, api.Rule{Decs: samples}, nil, all[from:to+1])
				}
			}
		}
	}
}

// TestSpreadLimit: Rl3, MaxSamples, in all.
func TestSpreadLimit(t *testing.T) {
	for text, want := range map[string]int{
		"@integer 0~999":                         1000,
		"@integer 0~998":                         999,
		"@integer 0~998, 5":                      1000,
		"@integer 5, 1~999":                      1000,
		"@decimal 0.0~99.9":                      1000,
		"@decimal 0.000~0.999":                   1000,
		"@integer 0~899 @decimal 0.0~9.9":        1000,
		"@integer 7 @decimal 0.1~99.9":           1000,
		"@integer 0~998 @decimal 0.0":            1000,
		"@integer 0~499, 0~498 @decimal 1.0c6":   1000,
		"@integer 0~99, 0~99 @decimal 0.00~7.99": 1000,
	} {
		ints, decs, e := rule.Spread(mustParse(t, text))
		if len(ints)+len(decs) != want || e != api.OK {
			t.Errorf("Spread of %q: %d and %d, error %d", text, len(ints), len(decs), e)
		}
	}
	for _, text := range []string{
		"@integer 0~1000", "@integer 0~1001", "@integer 0~999, 5", "@integer 5, 0~999", "@integer 5, 6, 1~999", "@decimal 0.0~100.0", "@integer 0~899 @decimal 0.0~10.0", "@integer 0~999 @decimal 0.0", "@integer 7, 8 @decimal 0.1~99.9", "@integer 0~499, 0~499 @decimal 1.0c6",
		"@integer 0~" + repeat("9", 40), "@integer 1, 0~" + repeat("9", 40) + ", 5 @decimal 1.0", "@decimal 0.0~" + repeat("9", 39) + ".9", "@decimal 0." + repeat("0", 39) + "~0." + repeat("9", 39), "@integer 0~18446744073709551616", "@integer 1~18446744073709551617", "@integer 0~4294967296", "@integer 0~999 @decimal 0.0~" + repeat("9", 39) + ".9",
	} {
		overfull(t, mustParse(t, text))
	}
	overfull(t, api.Rule{Ints: slices.Repeat(samplesOf("0~"+repeat("9", 40)), 64), Decs: slices.Repeat(samplesOf("0.0~"+repeat("9", 39)+".9"), 64)})
	overfull(t, api.Rule{Ints: slices.Repeat(samplesOf("1~16"), 63)})
	if ints, decs, e := rule.Spread(api.Rule{Ints: slices.Repeat(samplesOf("1~16"), 62), Decs: samplesOf("1.0~1.7")}); len(ints) != 992 || len(decs) != 8 || e != api.OK {
		t.Errorf("Spread of 1000 numbers: %d and %d, error %d", len(ints), len(decs), e)
	}
}

// TestSpreadErrors: Rl3, the error of Check, ahead of ErrFull.
func TestSpreadErrors(t *testing.T) {
	unprinted(t, api.Rule{Ints: samplesOf("0~1000,x")}, api.ErrRule)
	unprinted(t, api.Rule{Ints: samplesOf("0~1000"), Decs: samplesOf("1")}, api.ErrRule)
	unprinted(t, api.Rule{Ints: samplesOf("0~1000"), DecMore: true}, api.ErrRule)
	unprinted(t, api.Rule{Or: [][]api.Rel{{}}, Ints: samplesOf("1")}, api.ErrRule)
	unprinted(t, api.Rule{Ints: slices.Repeat(samplesOf("1"), 65)}, api.ErrFull)
}
