package choose_test

import (
	"math/rand"
	"slices"
	"strconv"
	"strings"
	"testing"

	"idiom/api"
	"idiom/choose"
	"idiom/operand"
	"idiom/rule"
)

// picked asks for the category of a number.
func picked(t *testing.T, set api.Set, text string, exp, want int) {
	t.Helper()
	if got, e := choose.Pick(set, dec(text), exp); got != want || e != api.OK {
		t.Errorf("Pick(%s, %s, %d): %d %d, want %d", clip(set), text, exp, got, e, want)
	}
}

// TestHolds: P6.2, one list all relations of which hold, or no list.
func TestHolds(t *testing.T) {
	for text, numbers := range map[string][2]string{
		"i = 1 and v = 0":                      {"1 -1", "1.0 0 2 1.5 1.00"},
		"":                                     {"0 1 -2.50 " + all40, ""},
		"@integer 1 @decimal 1.5":              {"0 1 7.25", ""},
		"n = 1":                                {"1 1.0 -1.00", "0 2 1.5 10"},
		"n != 1":                               {"0 2 1.5 10", "1 1.0 -1.00"},
		"n = 1 or n = 3":                       {"1 3 3.0", "2 13"},
		"n = 1 and n = 3":                      {"", "1 3 2"},
		"n = 1 and v = 0 or n = 3 and v = 1":   {"1 3.0", "1.0 3 3.00"},
		"n = 1 or n = 3 and v = 1 or n = 5..7": {"1 1.00 3.0 6", "3 3.00 4 6.5"},
		"n = 9 or n = 8 and v = 2 and i = 8":   {"9 8.00", "8 8.0 7.00"},
		"n within 1..2 and v != 0":             {"1.5 1.0 2.0", "1 2 2.1"},
	} {
		for at, want := range []bool{true, false} {
			for _, n := range strings.Fields(numbers[at]) {
				if got, e := choose.Holds(ruleOf(text), opsOf(n, 0)); got != want || e != api.OK {
					t.Errorf("Holds(%s) of %s: %t %d, want %t", text, n, got, e, want)
				}
			}
		}
	}
	random := rand.New(rand.NewSource(65))
	all, held := numbers(), 0
	for range 5000 {
		r := ruleOf(anyCondition(random))
		o := opsOf(all[random.Intn(len(all))], random.Intn(7))
		want := wantHolds(r, o)
		if want {
			held++
		}
		if got, e := choose.Holds(r, o); got != want || e != api.OK {
			t.Errorf("Holds(%s) of %s: %t %d, want %t", clip(r), clip(o), got, e, want)
		}
	}
	if held < 1000 || held > 4000 {
		t.Errorf("%d rules held", held)
	}
}

// wrongOps is operands that are not valid.
func wrongOps() []api.Ops {
	alter := func(change func(o *api.Ops)) api.Ops {
		o := opsOf("21.50", 0)
		change(&o)
		return o
	}
	return []api.Ops{
		{}, {N: dec("1")}, {I: "0", F: "0", T: "0"},
		alter(func(o *api.Ops) { o.N.Neg = true }), alter(func(o *api.Ops) { o.N = dec("21.50") }), alter(func(o *api.Ops) { o.N.Int = "021" }), alter(func(o *api.Ops) { o.I = "22" }), alter(func(o *api.Ops) { o.V = 1 }),
		alter(func(o *api.Ops) { o.W = 2 }), alter(func(o *api.Ops) { o.F = "5" }), alter(func(o *api.Ops) { o.T = "50" }), alter(func(o *api.Ops) { o.E = -1 }), alter(func(o *api.Ops) { o.E = 41 }), alter(func(o *api.Ops) { o.V = 39 }),
	}
}

// TestHoldsErrors: P6.2, the error of the rule, then that of the operands.
func TestHoldsErrors(t *testing.T) {
	refused := func(r api.Rule, o api.Ops, want api.Errno) {
		t.Helper()
		if got, e := choose.Holds(r, o); got || e != want {
			t.Errorf("Holds(%s, %s): %t %d, want error %d", clip(r), clip(o), got, e, want)
		}
	}
	wrong := []api.Rule{{Or: [][]api.Rel{{}}}, {IntMore: true}, {DecMore: true}, {Or: [][]api.Rel{{{Op: "x", List: []api.Span{{Lo: "1", Hi: "1"}}}}}}, {Or: [][]api.Rel{{{Op: "n"}}}}, {Ints: []api.Sample{{Lo: "2", Hi: "1"}}}}
	late := ruleOf("n = 1 or v = 0")
	late.Or[1][0].List[0].Hi = "x"
	for _, r := range append(wrong, late) {
		refused(r, opsOf("1", 0), api.ErrRule)
		for _, o := range wrongOps() {
			refused(r, o, api.ErrRule)
		}
	}
	full := ruleOf("n = 1")
	full.Or = slices.Repeat(full.Or, 65)
	refused(full, opsOf("1", 0), api.ErrFull)
	refused(full, api.Ops{}, api.ErrFull)
	for _, o := range wrongOps() {
		for _, text := range []string{"", "n = 1", "i = 1 and v = 0 or f != 2"} {
			refused(ruleOf(text), o, api.ErrOperand)
		}
	}
}

// TestPickExamples: the examples of P6.5, and P6.11 about one.
func TestPickExamples(t *testing.T) {
	set := setOf("one:i = 1 and v = 0", "other:")
	for text, want := range map[string]int{"1": api.One, "-1": api.One, "1.0": api.Other, "0": api.Other} {
		picked(t, set, text, 0, want)
	}
	for _, text := range numbers() {
		want := api.Other
		if text == "1" || text == "-1" {
			want = api.One
		}
		picked(t, set, text, 0, want)
	}
}

// TestLanguages: P6.5, the categories of languages, against what their rules say, written as functions.
func TestLanguages(t *testing.T) {
	for name, language := range languages {
		set := mustParse(t, language.text)
		seen := map[int]int{}
		for _, text := range numbers() {
			for _, exp := range []int{0, 1, 3, 5, 6, 9} {
				want := language.cat(shownOf(text, exp))
				seen[want]++
				if got, e := choose.Pick(set, dec(text), exp); got != want || e != api.OK {
					t.Errorf("%s: Pick of %s, %d: %d %d, want %d", name, text, exp, got, e, want)
				}
			}
		}
		if cats, e := choose.Cats(set); e != api.OK || len(seen) < len(cats) {
			t.Errorf("%s: numbers of only some categories: %v of %d", name, seen, cats)
		}
	}
}

// TestPickOrder: P6.5, the first rule that holds, where several do.
func TestPickOrder(t *testing.T) {
	for _, x := range []struct {
		set  api.Set
		want map[string]int
	}{
		{setOf("one:n = 1", "two:n = 1..2", "few:n = 1..3", "other:"), map[string]int{"1": api.One, "2": api.Two, "3": api.Few, "4": api.Other}},
		{setOf("few:n = 1..3", "two:n = 1..2", "one:n = 1"), map[string]int{"1": api.Few, "2": api.Few, "3": api.Few, "4": api.Other}},
		{setOf("many:v = 1", "zero:n = 0"), map[string]int{"0": api.Zero, "0.0": api.Many, "0.00": api.Zero, "1.00": api.Other}},
		{setOf("one:n = 5 or n = 1", "two:n = 2 and v = 0 or n = 5"), map[string]int{"5": api.One, "1": api.One, "2": api.Two, "2.0": api.Other}},
		{setOf("zero:n != 1"), map[string]int{"0": api.Zero, "1": api.Other, "7.5": api.Zero}},
		{api.Set{}, map[string]int{"0": api.Other, "1": api.Other, "-2.5": api.Other}},
		{setOf("other:"), map[string]int{"0": api.Other, "1": api.Other, "2.50": api.Other}},
	} {
		for text, want := range x.want {
			picked(t, x.set, text, 0, want)
		}
	}
	compact := setOf("one:e = 0 and i = 0,1", "many:c = 6 or i % 1000000 = 0 and v = 0", "few:n within 1000..2000")
	picked(t, compact, "1", 0, api.One)
	picked(t, compact, "1", 6, api.Many)
	picked(t, compact, "1.2", 6, api.Many)
	picked(t, compact, "1.2", 3, api.Few)
	picked(t, compact, "1.2", 1, api.Other)
	picked(t, compact, "1", 39, api.Many)
	picked(t, compact, "0", 40, api.Many)
}

// TestPickErrors: P6.5, the error of the set, then that of the number.
func TestPickErrors(t *testing.T) {
	refused := func(set api.Set, d api.Dec, exp int, want api.Errno) {
		t.Helper()
		if got, e := choose.Pick(set, d, exp); got != 0 || e != want {
			t.Errorf("Pick(%s, %s, %d): %d %d, want error %d", clip(set), clip(d), exp, got, e, want)
		}
	}
	for want, sets := range wrongSets() {
		for _, set := range sets {
			refused(set, dec("1"), 0, want)
			refused(set, api.Dec{}, 0, want)
			refused(set, dec("1"), -1, want)
			refused(set, dec(all40), 1, want)
		}
	}
	for _, set := range []api.Set{{}, setOf("other:"), setOf("one:n = 1", "two:v != 0")} {
		for _, d := range []api.Dec{{}, dec("-0"), dec("01"), dec("1x"), dec(all40 + "9"), {Neg: true, Int: "0", Frac: "0"}, {Int: "1", Frac: "."}} {
			refused(set, d, 0, api.ErrDecimal)
			refused(set, d, 41, api.ErrDecimal)
		}
		for _, exp := range []int{-1, 41, 1 << 32, -1 << 63, 1<<63 - 1} {
			refused(set, dec("1"), exp, api.ErrArg)
			refused(set, dec(all40), exp, api.ErrArg)
		}
		refused(set, dec("1"), 40, api.ErrBound)
		refused(set, dec("-"+all40), 1, api.ErrBound)
		refused(set, dec("1.5"), 40, api.ErrBound)
	}
}

// TestMisses: P6.6, written out.
func TestMisses(t *testing.T) {
	for _, x := range []struct {
		text string
		want []api.Miss
	}{
		{"one: n = 1 @integer 1, 2", []api.Miss{{Cat: api.One, Text: "2", Got: api.Other}}},
		{"one: n = 1 @integer 1 @decimal 1.0, 1.00; other: @integer 0, 2~16, \u2026 @decimal 0.0~0.9, \u2026", nil},
		{"one: i = 1 and v = 0 @integer 0~2 @decimal 1.0; other: @integer 1, 2 @decimal 1.0~1.2", []api.Miss{{Cat: api.One, Text: "0", Got: api.Other}, {Cat: api.One, Text: "2", Got: api.Other}, {Cat: api.One, Text: "1.0", Got: api.Other}, {Cat: api.Other, Text: "1", Got: api.One}}},
		{"one: n = 1; few: n = 1..3 @integer 3, 1~2, 7 @decimal 1.0~1.2; other: @decimal 3.0", []api.Miss{{Cat: api.Few, Text: "1", Got: api.One}, {Cat: api.Few, Text: "7", Got: api.Other}, {Cat: api.Few, Text: "1.0", Got: api.One}, {Cat: api.Few, Text: "1.1", Got: api.Other}, {Cat: api.Few, Text: "1.2", Got: api.Other}, {Cat: api.Other, Text: "3.0", Got: api.Few}}},
		{"many: e = 6 @integer 1c6, 1c5, 1000000 @decimal 1.1c6, 1.1e3, 1.1; other: @integer 7c6", []api.Miss{{Cat: api.Many, Text: "1c5", Got: api.Other}, {Cat: api.Many, Text: "1000000", Got: api.Other}, {Cat: api.Many, Text: "1.1c3", Got: api.Other}, {Cat: api.Many, Text: "1.1", Got: api.Other}, {Cat: api.Other, Text: "7c6", Got: api.Many}}},
		{"many: n = 1200000 @decimal 1.2c6; few: n = 1" + repeat("0", 20) + " @integer 1c20, 1c19", []api.Miss{{Cat: api.Few, Text: "1c19", Got: api.Other}}},
		{"zero: n != 0 @integer 0, 0, 0", slices.Repeat([]api.Miss{{Cat: api.Zero, Text: "0", Got: api.Other}}, 3)},
		{"two: n = 2; other: @integer 1~1000", []api.Miss{{Cat: api.Other, Text: "2", Got: api.Two}}},
	} {
		if got, e := choose.Misses(mustParse(t, x.text)); !same(got, x.want) || e != api.OK {
			t.Errorf("Misses of %q: %s %d, want %s", x.text, clip(got), e, clip(x.want))
		}
	}
}

// TestLanguagesHaveNoMisses: P6.6, for rules and samples as they stand in CLDR.
func TestLanguagesHaveNoMisses(t *testing.T) {
	for _, text := range []string{
		languages["en"].text,
		"one: i = 0,1 @integer 0, 1 @decimal 0.0~1.5; many: e = 0 and i != 0 and i % 1000000 = 0 and v = 0 or e != 0..5 @integer 1000000, 1c6, 2c6, 3c6, 4c6, 5c6, 6c6, \u2026 @decimal 1.0000001c6, 1.1c6, 2.0000001c6, 2.1c6, 3.0000001c6, 3.1c6, \u2026; other: @integer 2~17, 100, 1000, 10000, 100000, 1c3, 2c3, 3c3, 4c3, 5c3, 6c3, \u2026 @decimal 2.0~3.5, 10.0, 100.0, 1000.0, 10000.0, 100000.0, 1000000.0, 1.0001c3, 1.1c3, 2.0001c3, 2.1c3, 3.0001c3, 3.1c3, \u2026",
		"one: i = 1 and v = 0 @integer 1; few: v = 0 and i % 10 = 2..4 and i % 100 != 12..14 @integer 2~4, 22~24, 32~34, 42~44, 52~54, 62, 102, 1002, \u2026; many: v = 0 and i != 1 and i % 10 = 0..1 or v = 0 and i % 10 = 5..9 or v = 0 and i % 100 = 12..14 @integer 0, 5~19, 100, 1000, 10000, 100000, 1000000, \u2026; other: @decimal 0.0~1.5, 10.0, 100.0, 1000.0, 10000.0, 100000.0, 1000000.0, \u2026",
	} {
		if got, e := choose.Misses(mustParse(t, text)); len(got) > 0 || e != api.OK {
			t.Errorf("Misses of %.100q: %s %d", text, clip(got), e)
		}
	}
}

// TestMissesErrors: P6.6, the error of the set, then what occurs first.
func TestMissesErrors(t *testing.T) {
	refused := func(set api.Set, want api.Errno) {
		t.Helper()
		if got, e := choose.Misses(set); len(got) > 0 || e != want {
			t.Errorf("Misses(%s): %s %d, want error %d", clip(set), clip(got), e, want)
		}
	}
	for want, sets := range wrongSets() {
		for _, set := range sets {
			refused(set, want)
		}
	}
	const full, long, miss = " @integer 0~1000", " @integer " + all40 + "c1", " @integer 7"
	const longDec = " @decimal 1.0, 123456789012345678901234567890.5c20"
	for _, x := range []struct {
		want  api.Errno
		texts []string
	}{
		{api.ErrFull, []string{"one:n = 1" + full}},
		{api.ErrFull, []string{"one:n = 1 @integer 1~1000 @decimal 1.0"}},
		{api.ErrFull, []string{"one:n = 1" + full + longDec}},
		{api.ErrFull, []string{"one:n = 1" + miss, "two:n = 2" + full}},
		{api.ErrFull, []string{"one:n = 1" + full, "two:n = 2" + long}},
		{api.ErrFull, []string{"one:n = 1", "other:" + full}},
		{api.ErrBound, []string{"one:n = 1" + long}},
		{api.ErrBound, []string{"one:n = 1" + longDec}},
		{api.ErrBound, []string{"one:n = 1" + miss + longDec, "two:n = 2" + full}},
		{api.ErrBound, []string{"one:n = 1" + long, "two:n = 2" + full}},
		{api.ErrBound, []string{"one:n = 1 @integer 1c20, 1", "other:" + long}},
		{api.ErrBound, []string{"other:" + long}},
	} {
		refused(setOf(x.texts...), x.want)
	}
	last := setOf("one:n = 1"+long, "two:n = 2")
	last.Rules[1].Rule.IntMore = true
	refused(last, api.ErrRule)
}

// TestMissesOfAnySet: P6.12, exactly the samples that Pick gives another category, in order.
func TestMissesOfAnySet(t *testing.T) {
	random := rand.New(rand.NewSource(66))
	total := 0
	for range 500 {
		set, _ := anySet(random)
		var want []api.Miss
		for _, named := range set.Rules {
			ints, decs, _ := rule.Spread(named.Rule)
			for _, text := range append(ints, decs...) {
				digits, power, _ := strings.Cut(text, "c")
				exp, _ := strconv.Atoi(power)
				if got, _ := choose.Pick(set, dec(digits), exp); got != named.Cat {
					want = append(want, api.Miss{Cat: named.Cat, Text: text, Got: got})
				}
			}
		}
		total += len(want)
		if got, e := choose.Misses(set); !same(got, want) || e != api.OK {
			t.Errorf("Misses(%s): %s %d, want %s", clip(set), clip(got), e, clip(want))
		}
		for i := range set.Rules {
			r := &set.Rules[i].Rule
			r.Ints, r.Decs, r.IntMore, r.DecMore = nil, nil, false, false
		}
		if got, e := choose.Misses(set); len(got) > 0 || e != api.OK {
			t.Errorf("Misses(%s), without samples: %s %d", clip(set), clip(got), e)
		}
	}
	if total < 1000 {
		t.Errorf("only %d misses", total)
	}
}

// TestFirstThatHolds: P6.9, by Holds and by each list and relation alone.
func TestFirstThatHolds(t *testing.T) {
	random := rand.New(rand.NewSource(67))
	all := numbers()
	holds := func(r api.Rule, o api.Ops) bool {
		held, e := choose.Holds(r, o)
		if e != api.OK {
			t.Fatalf("Holds(%s, %s): error %d", clip(r), clip(o), e)
		}
		return held
	}
	seen := map[int]int{}
	for range 4000 {
		set, _ := anySet(random)
		text, exp := all[random.Intn(len(all))], random.Intn(8)
		o, e := operand.Of(dec(text), exp)
		if e != api.OK {
			t.Fatalf("Of(%s, %d): error %d", text, exp, e)
		}
		want, at := api.Other, len(set.Rules)
		for i, named := range set.Rules {
			if holds(named.Rule, o) {
				want, at = named.Cat, i
				break
			}
		}
		seen[want]++
		picked(t, set, text, exp, want)
		if at < len(set.Rules) { // later rules do not matter
			picked(t, api.Set{Rules: set.Rules[:at+1]}, text, exp, want)
		}
		for _, named := range set.Rules {
			lists := len(named.Rule.Or) == 0
			for _, and := range named.Rule.Or {
				rels := true
				for _, rel := range and {
					rels = rels && holds(api.Rule{Or: [][]api.Rel{{rel}}}, o)
				}
				alone := holds(api.Rule{Or: [][]api.Rel{and}}, o)
				if alone != rels {
					t.Errorf("the list %s alone holds for %s: %t, its relations: %t", clip(and), text, alone, rels)
				}
				lists = lists || alone
			}
			if got := holds(named.Rule, o); got != lists {
				t.Errorf("%s holds for %s: %t, its lists alone: %t", clip(named.Rule), text, got, lists)
			}
		}
	}
	for cat := range 6 {
		if seen[cat] < 100 {
			t.Errorf("only %d numbers of category %d", seen[cat], cat)
		}
	}
}

// TestOfTheValueAlone: P6.11, numbers of one value have one category by rules that use only n.
func TestOfTheValueAlone(t *testing.T) {
	random := rand.New(rand.NewSource(68))
	var ofN []string
	for _, text := range conditions {
		if strings.HasPrefix(text, "n") {
			ofN = append(ofN, text)
		}
	}
	for range 300 {
		var set api.Set
		for cat := api.Zero; cat <= api.Many; cat++ {
			text := ofN[random.Intn(len(ofN))] + []string{" and ", " or "}[random.Intn(2)] + ofN[random.Intn(len(ofN))]
			set.Rules = append(set.Rules, api.Named{Cat: cat, Rule: ruleOf(text)})
		}
		for _, text := range []string{"0", "1", "2", "3", "5", "11", "12", "20", "21", "101", "1.5", "2.25", "1000000"} {
			want, e := choose.Pick(set, dec(text), 0)
			if e != api.OK {
				t.Fatalf("Pick of %s: error %d", text, e)
			}
			padded := text
			if !strings.Contains(text, ".") {
				padded += "."
			}
			for _, zeros := range []int{1, 2, 20} {
				picked(t, set, padded+repeat("0", zeros), 0, want)
				if text != "0" {
					picked(t, set, "-"+padded+repeat("0", zeros), 0, want)
				}
			}
		}
	}
}

// TestRoundTrip: P6.10, Parse inverts Print, and what is parsed is printed and parsed as the same set.
func TestRoundTrip(t *testing.T) {
	random := rand.New(rand.NewSource(69))
	roundTrip := func(set api.Set) string {
		t.Helper()
		text, e := choose.Print(set)
		if e != api.OK {
			t.Fatalf("Print(%s): error %d", clip(set), e)
		}
		parsed(t, text, set)
		return text
	}
	for range 3000 {
		set, text := anySet(random)
		first := roundTrip(set)
		if again := roundTrip(mustParse(t, spaced(random, text))); again != first {
			t.Errorf("%q is printed as %q", first, again)
		}
	}
	for _, language := range languages {
		if text := roundTrip(mustParse(t, language.text)); text != language.text && !strings.HasPrefix(language.text, "one: n within") {
			t.Errorf("%q is printed as %q", language.text, text)
		}
	}
	exact := api.Set{Rules: []api.Named{{Cat: api.Many, Rule: longRule(19)}}}
	if text := roundTrip(exact); len(text) != 65536 {
		t.Errorf("a text of %d bytes", len(text))
	}
}
