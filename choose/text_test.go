package choose_test

import (
	"math/rand"
	"slices"
	"strings"
	"testing"

	"idiom/api"
	"idiom/choose"
)

// parsed asks for the set of a text.
func parsed(t *testing.T, text string, want api.Set) {
	t.Helper()
	if got, at, e := choose.Parse(text); !same(got, want) || at != 0 || e != api.OK {
		t.Errorf("Parse(%.200q): %s, %d at %d, want %s", text, clip(got), e, at, clip(want))
	}
}

// rejected asks for the error of a text.
func rejected(t *testing.T, text string, at int, want api.Errno) {
	t.Helper()
	if got, place, e := choose.Parse(text); !same(got, api.Set{}) || place != at || e != want {
		t.Errorf("Parse(%.200q): %s, %d at %d, want %d at %d", text, clip(got), e, place, want, at)
	}
}

// rejectedAtMark asks for an error at the place of a mark ^ in a text, without which it is parsed.
func rejectedAtMark(t *testing.T, text string, want api.Errno) {
	t.Helper()
	before, after, found := strings.Cut(text, "^")
	if !found || strings.Contains(after, "^") {
		t.Fatalf("not one mark in %q", text)
	}
	rejected(t, before+after, len(before), want)
}

// TestParse: P6.3, written out.
func TestParse(t *testing.T) {
	for text, want := range map[string]api.Set{
		"":                 {},
		" ":                {},
		repeat(" ", 65536): {},
		"\t\u2028\u200e\n": {},
		"other:":           setOf("other:"),
		"other: ":          setOf("other:"),
		" other : ":        setOf("other:"),
		"one:n=1":          setOf("one:n = 1"),
		"one: n = 1":       setOf("one:n = 1"),
		"\u2029one\u200f:\u0085n is 1\v;\fother\r:\n":                                          setOf("one:n = 1", "other:"),
		"one: i = 1 and v = 0; other:":                                                         setOf("one:i = 1 and v = 0", "other:"),
		"one: n = 1; two: n = 2; few: n = 3; many: n = 4; zero: n = 0; other: @integer 5, ...": setOf("one:n = 1", "two:n = 2", "few:n = 3", "many:n = 4", "zero:n = 0", "other:@integer 5, \u2026"),
		"many: n = 1 @integer 1, \u2026;few:n = 2 @decimal 2.0,\u2026;other:@decimal 7.0":      setOf("many:n = 1 @integer 1, \u2026", "few:n = 2 @decimal 2.0, \u2026", "other:@decimal 7.0"),
	} {
		parsed(t, text, want)
	}
	for cat, word := range words[1:] {
		parsed(t, word+": v = 0", api.Set{Rules: []api.Named{{Cat: cat + 1, Rule: ruleOf("v = 0")}}})
	}
}

// TestParseOfAnyText: P6.3, sets of any rules, with any white space.
func TestParseOfAnyText(t *testing.T) {
	random := rand.New(rand.NewSource(62))
	for range 5000 {
		set, text := anySet(random)
		parsed(t, text, set)
		parsed(t, spaced(random, text), set)
	}
}

// TestParseExamples: the examples of P6.3, and that of P6.1.
func TestParseExamples(t *testing.T) {
	rejected(t, "one: n = 1; one: n = 2", 12, api.ErrTwice)
	rejected(t, "other:; one: n = 1", 8, api.ErrSet)
	rejected(t, "some: n = 1", 0, api.ErrCategory)
	rejected(t, "one n = 1", 4, api.ErrSet)
	rejected(t, "one:", 0, api.ErrSet)
	parsed(t, "", api.Set{})
}

// TestParseErrors: P6.3, each error at its place.
func TestParseErrors(t *testing.T) {
	for want, texts := range map[api.Errno][]string{
		api.ErrSet: {
			"^;", " ^;", "^:", "\u2028^: n = 1", "^5", "^One: n = 1", "^\u03bfne: n = 1", "^\xff", "^\x00", "^\u00a0one: n = 1", "^\ufeff", "^@integer 1", "^-", "^= 1", " \t^\x84", "^;one: n = 1", "^\xe2\x80",
			"one: n = 1;^", "one: n = 1; ^", "one: n = 1;\u2029\n^", "one: n = 1;^;", "one: n = 1; ^; two: n = 2", "one: n = 1;^: n = 2", "one: n = 1; ^2: n = 2", "other:;^", "other: ; ^", "other:;^;", "other:;^5",
			"other: ;^two: n = 2", "one: n = 1; other:; ^two: n = 2", "other: @integer 1; ^few", "other:;^few x", "other:;\n^few:",
			"one^", "one ^", "one\u2028^", "one^;", "one ^; two: n = 2", "one ^n = 1", "one^5: n = 1", "one ^one: n = 1", "one^-", "one^= 1", "one^Z:", "one^\xff:", "one^.:", "one: n = 1; two^", "one: n = 1; two\t ^n = 2",
			"other^", "other ^", "other^;", "one: n = 1; other^\u00a0:",
			"^one:", "^one: ", "^one: @integer 1", " ^one:;", "^many: @decimal 1.0; other:", "^other: n = 1", " ^other: n = 1 @integer 1", "one: n = 1; ^two:", "one: n = 1; ^other: n = 2", "one: n = 1; ^two: ; 5", "^zero:; zero: n = 1",
			"^other: n = 1; other:", "^other: n = 1; one: n = 1",
		},
		api.ErrCategory: {
			"^some: n = 1", "^x", "^ones: n = 1", "^on", "  ^nothing", "^n = 1", "^and", "^a;", "^any:", "^oneother:", "one: n = 1; ^ones: n = 1", "other:; ^others", "other:;^x", "one: n = 1;\u2029^all", "^oneo: n = 1", "^fewmany",
			"^z:::", "^" + repeat("one", 20000), "^" + repeat("z", 65536), "one: n = 1; ^otter", "^others5:",
		},
		api.ErrTwice: {
			"one: n = 1; ^one: n = 2", "one: n = 1;^one", "one: n = 1; ^one n = 2", "one: n = 1; ^one:", "one: n = 1; ^one: n = x", "one: n = 1; two: n = 2; ^one: n = 3", "other:; ^other:", "other:;^other", "one: n = 1; other:; ^one: n = 1",
			"one: n = 1; other:; ^other: n = 1", "zero: n = 0; one: n = 1; two: n = 2; few: n = 3; many: n = 4; other:; ^zero: n = 1", "zero: n = 0; one: n = 1; two: n = 2; few: n = 3; many: n = 4; ^many", "other: ; ^other x",
		},
		api.ErrRule: {
			"one: ^x", "one:^x", "one: n = 1 ^x", "one: n =^", "one: n =^;", "one: n = ^; two: n = 2", "one: n = 1 and^", "one: n = 5..^3", "one: n = 1 ^: 2", "one:^: n = 1", "one: ^one: n = 1", "one: n = 1; two: n ^2", "one: n = 1; two: n = 2 ^two",
			"other:^x", "other: ^5;", "other: @integer 1^.0", "other: @integer^", "other: @integer ^; one: n = 1", "other: @decimal ^x", "one: n = 1 @integer 1, ^; other:", "one: n^", "one: n = ^01; one", "one: ^\xff", "one: n = 1 ^\xe2\x80;",
			"one: n = 1; other: ^other:", "one: n = 1 @integer 1; other: @integer 1 ^n = 1", "one: ^@", "one: n = 1; two: n = 2; few: n = 3; many: n % ^0 = 1",
		},
		api.ErrFull: {
			"one: n = 1" + repeat(" or n = 1", 63) + " or ^n = 1", "one: n = 1; other: @integer 1" + repeat(",1", 63) + ", ^1", "one: n = 1" + repeat(",1", 63) + ",^1 x",
		},
	} {
		for _, text := range texts {
			rejectedAtMark(t, text, want)
		}
	}
}

// TestParseLong: P6.3, ErrLong, whatever else is wrong.
func TestParseLong(t *testing.T) {
	for _, text := range []string{repeat(" ", 65537), repeat("x", 65537), "one: n = 1" + repeat(" ", 65527), repeat(";", 100000), "other:" + repeat("\n", 1<<17)} {
		rejected(t, text, 0, api.ErrLong)
	}
	parsed(t, "one: n = 1"+repeat(" ", 65526), setOf("one:n = 1"))
	rejected(t, "one: n = 1"+repeat(" ", 65525)+"x", 65535, api.ErrRule)
	rejected(t, "one: n = 1"+repeat(" ", 65525)+";", 65536, api.ErrSet)
	rejected(t, repeat(" ", 65535)+";", 65535, api.ErrSet)
	rejected(t, repeat(";", 65536), 0, api.ErrSet)
}

// TestPrint: P6.4, written out.
func TestPrint(t *testing.T) {
	for text, want := range map[string]string{
		"":                             "",
		" \n":                          "",
		"other:":                       "other:",
		" other : ":                    "other:",
		"one: i = 1 and v = 0; other:": "one: i = 1 and v = 0; other:",
		"one:n is 1;two:n in 2..2 @integer 2,...;other:@decimal 1.0e3":                               "one: n = 1; two: n = 2 @integer 2, \u2026; other: @decimal 1.0c3",
		"few: n mod 10 in 3..4 or v is not 0 @integer 3;many:n within 0..1;other:@integer 5,\u2026 ": "few: n % 10 = 3..4 or v != 0 @integer 3; many: n within 0..1; other: @integer 5, \u2026",
		"zero:n=0": "zero: n = 0",
	} {
		if got, e := choose.Print(mustParse(t, text)); got != want || e != api.OK {
			t.Errorf("Print of %q: %q %d, want %q", text, got, e, want)
		}
	}
	random := rand.New(rand.NewSource(63))
	for range 3000 {
		set, want := anySet(random)
		if got, e := choose.Print(set); got != want || e != api.OK {
			t.Errorf("Print(%s): %q %d, want %q", clip(set), got, e, want)
		}
	}
}

// longRule is a rule of 65511 bytes and so many more, 1 to 40.
func longRule(more int) api.Rule {
	return ruleOf(repeat("n = 9876543210123456"+repeat(",1234567890123456", 63)+" or ", 59) + "n = " + repeat(all40+",", 22) + repeat("8", more))
}

// TestPrintLong: P6.4, ErrLong if a rule is too long; sets of more than MaxText bytes are not.
func TestPrintLong(t *testing.T) {
	long := longRule(25)
	longer := long
	longer.Or = append(slices.Clone(long.Or), []api.Rel{{Op: "n", List: []api.Span{{Lo: "1", Hi: "1"}}}})
	set := api.Set{Rules: []api.Named{{Cat: api.One, Rule: long}}}
	for cat := api.Two; cat <= api.Many; cat++ {
		set.Rules = append(set.Rules, api.Named{Cat: cat, Rule: long})
	}
	text, e := choose.Print(set)
	if len(text) != 4*65536+len("one: two: few: many: ")+6 || e != api.OK {
		t.Errorf("Print of a long set: %d bytes, error %d", len(text), e)
	}
	rejected(t, text, 0, api.ErrLong)
	for at := range set.Rules {
		wrong := api.Set{Rules: slices.Clone(set.Rules)}
		wrong.Rules[at].Rule = longer
		if text, e := choose.Print(wrong); text != "" || e != api.ErrLong {
			t.Errorf("Print of a set with a rule that is too long: %d bytes, error %d", len(text), e)
		}
		if e := choose.Check(wrong); e != api.OK {
			t.Errorf("Check of a set with a rule that is too long to be printed: %d", e)
		}
		wrong.Rules = append(wrong.Rules, set.Rules[0])
		if text, e := choose.Print(wrong); text != "" || e != api.ErrTwice {
			t.Errorf("Print of a wrong set with a rule that is too long: %d bytes, error %d", len(text), e)
		}
	}
}

// TestCheck: P6.4, the first violation, and that Print has the same one.
func TestCheck(t *testing.T) {
	for want, sets := range wrongSets() {
		for _, set := range sets {
			if e := choose.Check(set); e != want {
				t.Errorf("Check(%s): %d, want %d", clip(set), e, want)
			}
			if text, e := choose.Print(set); text != "" || e != want {
				t.Errorf("Print(%s): %q %d, want error %d", clip(set), text, e, want)
			}
		}
	}
	if e := choose.Check(mustParse(t, "one: i = 1 and v = 0; other:")); e != api.OK {
		t.Errorf("Check of the example: %d", e)
	}
	if e := choose.Check(api.Set{}); e != api.OK {
		t.Errorf("Check of no rules: %d", e)
	}
	if e := choose.Check(api.Set{Rules: slices.Repeat(setOf("one:n = 1").Rules, 1<<20)}); e != api.ErrTwice {
		t.Errorf("Check of very many rules: %d", e)
	}
}

// TestCheckOfChangedSets: P6.4, by the definition.
func TestCheckOfChangedSets(t *testing.T) {
	random := rand.New(rand.NewSource(64))
	counts := map[api.Errno]int{}
	for range 20000 {
		set, _ := anySet(random)
		more, _ := anySet(random)
		for range 1 + random.Intn(2) {
			if len(set.Rules) == 0 {
				continue
			}
			named := &set.Rules[random.Intn(len(set.Rules))]
			switch random.Intn(6) {
			case 0:
				named.Cat = random.Intn(8) - 1
			case 1:
				named.Rule.IntMore = !named.Rule.IntMore
			case 2:
				named.Rule.Or = nil
			case 3:
				named.Rule.Or = append(named.Rule.Or, nil)
			case 4:
				named.Rule.Or = slices.Repeat(ruleOf("n = 1").Or, 60+random.Intn(10))
			case 5:
				set.Rules = append(set.Rules, more.Rules...)
			}
		}
		want := wantCheck(set)
		counts[want]++
		if e := choose.Check(set); e != want {
			t.Fatalf("Check(%s): %d, want %d", clip(set), e, want)
		}
	}
	for _, e := range []api.Errno{api.OK, api.ErrSet, api.ErrTwice, api.ErrRule, api.ErrFull} {
		if counts[e] < 500 {
			t.Errorf("only %d sets with error %d", counts[e], e)
		}
	}
}
