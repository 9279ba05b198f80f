package rule_test

import (
	"math/rand"
	"regexp"
	"sort"
	"strconv"
	"strings"
	"testing"

	"idiom/api"
	"idiom/rule"
)

// parsed asks for the rule of a text.
func parsed(t *testing.T, text string, want api.Rule) {
	t.Helper()
	if got, at, e := rule.Parse(text); !same(got, want) || at != 0 || e != api.OK {
		t.Errorf("Parse(%.200q): %s, %d at %d, want %s", text, clip(got), e, at, clip(want))
	}
}

// rejected asks for the error of a text.
func rejected(t *testing.T, text string, at int, want api.Errno) {
	t.Helper()
	if got, place, e := rule.Parse(text); !same(got, api.Rule{}) || place != at || e != want {
		t.Errorf("Parse(%.200q): %s, %d at %d, want %d at %d", text, clip(got), e, place, want, at)
	}
}

// rejectedAtMark asks for ErrRule at the place of a mark ^ in a text, without which it is parsed.
func rejectedAtMark(t *testing.T, text string) {
	t.Helper()
	before, after, found := strings.Cut(text, "^")
	if !found || strings.Contains(after, "^") {
		t.Fatalf("not one mark in %q", text)
	}
	rejected(t, before+after, len(before), api.ErrRule)
}

// TestParse: Rl1, written out.
func TestParse(t *testing.T) {
	n := func(rel api.Rel) api.Rule {
		rel.Op = "n"
		return oneOf(rel)
	}
	for text, want := range map[string]api.Rule{
		"":                          {},
		" \u2028\t":                 {},
		"n = 1":                     n(api.Rel{List: spansOf("1")}),
		"n != 1":                    n(api.Rel{Not: true, List: spansOf("1")}),
		"n is 5":                    n(api.Rel{List: spansOf("5")}),
		"n in 5":                    n(api.Rel{List: spansOf("5")}),
		"n = 5":                     n(api.Rel{List: spansOf("5")}),
		"n is not 1":                n(api.Rel{Not: true, List: spansOf("1")}),
		"n not in 1":                n(api.Rel{Not: true, List: spansOf("1")}),
		"n within 1..3":             n(api.Rel{Within: true, List: spansOf("1..3")}),
		"n not within 1..3,5":       n(api.Rel{Not: true, Within: true, List: spansOf("1..3,5")}),
		"n in 1..3,5,7..9":          n(api.Rel{List: spansOf("1..3,5,7..9")}),
		"n not in 1..3,5":           n(api.Rel{Not: true, List: spansOf("1..3,5")}),
		"n = 4..4":                  n(api.Rel{List: spansOf("4")}),
		"n = 0":                     n(api.Rel{List: spansOf("0")}),
		"n = 0..0,0,3,1..2,1..2":    n(api.Rel{List: spansOf("0,0,3,1..2,1..2")}),
		"n mod 10 is 1":             n(api.Rel{Mod: "10", List: spansOf("1")}),
		"n % 10 = 1":                n(api.Rel{Mod: "10", List: spansOf("1")}),
		"n mod 1 not within 0":      n(api.Rel{Mod: "1", Not: true, Within: true, List: spansOf("0")}),
		"n%10!=12..14":              n(api.Rel{Mod: "10", Not: true, List: spansOf("12..14")}),
		"n mod10in1..3":             n(api.Rel{Mod: "10", List: spansOf("1..3")}),
		" n  is\tnot\n7 ":           n(api.Rel{Not: true, List: spansOf("7")}),
		"n = 1 .. 3 , 5":            n(api.Rel{List: spansOf("1..3,5")}),
		"@integer 1":                {Ints: samplesOf("1")},
		"@integer 0~2, 100":         {Ints: samplesOf("0~2,100")},
		"@integer1~2,100,...":       {Ints: samplesOf("1~2,100"), IntMore: true},
		"@integer 1, \u2026":        {Ints: samplesOf("1"), IntMore: true},
		"@integer 1 ~ 2 ,\u2026 ":   {Ints: samplesOf("1~2"), IntMore: true},
		"@integer 1c6, 2e20, 0c1":   {Ints: samplesOf("1c6,2c20,0c1")},
		"@decimal 0.0~0.2, 1.1c6":   {Decs: samplesOf("0.0~0.2,1.1c6")},
		"@decimal 1.050e3, ...":     {Decs: samplesOf("1.050c3"), DecMore: true},
		"@integer 1@decimal 1.0":    {Ints: samplesOf("1"), Decs: samplesOf("1.0")},
		"@integer 1,...@decimal1.0": {Ints: samplesOf("1"), IntMore: true, Decs: samplesOf("1.0")},
		"@integer 1 @decimal 1.0, \u2026": {
			Ints: samplesOf("1"), Decs: samplesOf("1.0"), DecMore: true,
		},
		"n = 1@integer 1": {Or: n(api.Rel{List: spansOf("1")}).Or, Ints: samplesOf("1")},
		"i = 1 and v = 0 or f is 2and t % 3 within 4 @integer 5 @decimal 6.7": {
			Or: [][]api.Rel{
				{{Op: "i", List: spansOf("1")}, {Op: "v", List: spansOf("0")}},
				{{Op: "f", List: spansOf("2")}, {Op: "t", Mod: "3", Within: true, List: spansOf("4")}},
			},
			Ints: samplesOf("5"), Decs: samplesOf("6.7"),
		},
		"w = 1 or c = 2 or e = 3": {Or: [][]api.Rel{{{Op: "w", List: spansOf("1")}}, {{Op: "c", List: spansOf("2")}}, {{Op: "e", List: spansOf("3")}}}},
	} {
		parsed(t, text, want)
	}
}

// TestParseOfAnyText: Rl1, each rule in any spelling, with any white space.
func TestParseOfAnyText(t *testing.T) {
	random := rand.New(rand.NewSource(52))
	for range 20000 {
		r := anyRule(random)
		text := anyText(random, r)
		if got, at, e := rule.Parse(text); !same(got, r) || at != 0 || e != api.OK {
			t.Fatalf("Parse(%q): %s, %d at %d, want %s", text, clip(got), e, at, clip(r))
		}
	}
}

// TestParseExamples: the examples of Rl1.
func TestParseExamples(t *testing.T) {
	rejected(t, "n = 5..3", 7, api.ErrRule)
	rejected(t, "n =", 3, api.ErrRule)
	rejected(t, "x = 1", 0, api.ErrRule)
	rejected(t, "n % 0 = 1", 4, api.ErrRule)
	rejected(t, "n = 1 and", 9, api.ErrRule)
	rejected(t, "@integer 1.0", 10, api.ErrRule)
}

// TestParseConditionErrors: Rl1, the first token that is not permitted, ahead of the samples.
func TestParseConditionErrors(t *testing.T) {
	for _, text := range []string{
		"^x", "^x = 1", "  ^x", "^5", "^= 1", "^and", "^or n = 1", "^, n = 1", "^not", "^is", "^in 1", "^within", "^mod 10", "^nn = 1", "^N = 1", "^ni = 1", "^\u03bd = 1",
		"^\xff", "^\x00", "^;", "^.", "^..", "^...", "^\u2026", "^~", "^%", "^@", "^-", "^{", "^integer 1",
		"n^", "n ^", "n\u2028^", "n ^n", "n ^1", "n ^and", "n ^,", "n ^@integer 1", "n =^= 1", "n ^! = 1", "n ^! 1", "n ^< 1", "n ^: 1", "n ^inside 1", "n ^isa 1", "n ^isz 1",
		"n mod^", "n mod ^", "n % ^", "n mod ^x", "n mod ^= 1", "n % ^% 1", "n mod ^mod 1", "n mod ^0 = 1", "n % ^0", "n % ^00 = 1", "n % ^010 = 1", "n % ^-1 = 1", "n % 10^",
		"n % 10 ^10", "n % 10 ^% 10 = 1", "n % 10 ^mod 3", "n % 1^.5 = 1", "n % 1^..2 = 1", "n % 1^, 2 = 1", "n % ^" + repeat("9", 41) + " = 1",
		"n is^", "n is ^is 1", "n is ^in 1", "n is ^= 1", "n is ^x", "n is not^", "n is not ^not 1", "n is not ^in 1", "n is not ^within 1", "n is ^within 1", "n is ^01",
		"n is not ^01", "n is 1^..2", "n is 1^,2", "n is not 1 ^, 2", "n is not 1^..2", "n is 1 ^2", "n is ^isnt 1",
		"n not^", "n not ^is 1", "n not ^= 1", "n not ^!= 1", "n not ^not in 1", "n not ^1", "n not ^mod 10", "n not in^", "n not in ^x", "n not in ^not 1", "n not within^",
		"n not within ^in 1", "n in ^not 1", "n in ^in 1", "n within ^not 1", "n ^notin 1", "n ^inwithin 1",
		"n =^", "n = ^", "n = ^x", "n = ^n", "n = ^= 1", "n = ^not 1", "n = ^is 1", "n = ^in 1", "n =^!= 1", "n != ^= 1", "n !=^", "n = ^-1", "n = ^+1", "n = ^.5", "n = ^01",
		"n = ^00", "n = ^007", "n = ^" + repeat("9", 41), "n = ^" + repeat("0", 2), "n = ^0" + repeat("9", 39), "n = ^\u0661", "n = ^\uff11",
		"n = 1^.", "n = 1^.0", "n = 1^...", "n = 1^...3", "n = 1 ^. . 3", "n = 1^....3", "n = 1^.x", "n = 1..^", "n = 1.. ^", "n = 1..^x", "n = 1.. ^.3", "n = 1.. ^..3",
		"n = 1..^01", "n = 1..^" + repeat("9", 41), "n = 1..2^..3", "n = 1..2^.", "n = 1^c6", "n = 1^e6", "n = 1 ^~ 2", "n = 1^\u2026",
		"n = 2..^1", "n = 2..^0", "n = 10..^9", "n = 10 .. ^9", "n = 100..^99", "n = " + repeat("9", 40) + "..^" + repeat("9", 39),
		"n = " + repeat("9", 40) + "..^" + repeat("9", 39) + "8", "n = 1..2,4..^3", "n = 5..^3 and", "n = 5..^3 x",
		"n = 1,^", "n = 1, ^", "n = 1,^,2", "n = 1,^x", "n = ^,1", "n = 1,^and v = 0", "n = 1,^\u2026", "n = 1,^...", "n = 1,^..", "n = 1,2 ^3", "n = 1,2^.", "n = 1,^02", "n = 1^;2",
		"n = 1 ^x", "n = 1 ^2", "n = 1 ^n", "n = 1 ^= 2", "n = 1 ^not", "n = 1 ^mod 10", "n = 1 ^% 10", "n = 1 ^andn = 2", "n = 1 ^andz v = 0", "n = 1 ^anda", "n = 1 ^ora",
		"n = 1 ^orz v = 0", "n = 1 ^orv = 0", "n = 1 ^oror", "n = 1 ^an", "n = 1 ^&", "n = 1 ^|", "n = 1 ^;", "n = 1 ^is 1", "n = 1^.", "n = 1 ^\xe2\x80", "n = 1 ^\x85",
		"n = 1 ^\u00a0", "n = 1 ^\ufeff",
		"n = 1 and^", "n = 1 and ^", "n = 1 and ^and v = 0", "n = 1 and ^or v = 0", "n = 1 and ^x", "n = 1 and ^5", "n = 1 and ^@integer 1", "n = 1 and v^", "n = 1 and v = ^x",
		"n = 1 and ^not v = 0",
		"n = 1 or^", "n = 1 or ^", "n = 1 or ^and v = 0", "n = 1 or ^or v = 0", "n = 1 or ^x = 1", "n = 1 or ^@integer 1", "n = 1 or ^@decimal 1.0", "n = 1 or v =^",
	} {
		rejectedAtMark(t, text)
	}
}

// TestParseSampleErrors: Rl1, the same, about the words ahead of samples.
func TestParseSampleErrors(t *testing.T) {
	for _, text := range []string{
		"^@", "^@int 1", "^@decima", "^@ integer 1", "^@Integer 1", "@integer^s 1", "@integer^and", "@integer^", "@decimal^", "@decimal\u2029^", "n = 1 @integer ^x",
		"n = 1 @integer 1 @decimal 1^", "n = 1 @integer 1^.0 @decimal 1.0", "n = 1 ^@", "n = 1 ^@x",
	} {
		rejectedAtMark(t, text)
	}
}

// TestParseIntErrors: Rl1, the same, in the samples without a period.
func TestParseIntErrors(t *testing.T) {
	for _, text := range []string{
		"^", "^x", "^,", "^~", "^.", "^\u2026", "^...", "^..", "^@decimal 1.0", "^@integer 1", "^c6", "^-1", "^n = 1", "^01", "^00", "^" + repeat("1", 41), "1^.0", "1^.", "1^.x",
		"1 ^.0", "1^..2", "1^...", "1^\u2026", "1 ^\u2026", "1 ^2", "1 ^x", "1 ^and", "1 ^or n = 1", "1 ^@integer 2", "1^;", "1 ^= 1", "0^.5", "1c6^.5", "1,^", "1, ^", "1,^,",
		"1,^x", "1,^..", "1,^.", "1, ^~2", "1,^@decimal 1.0", "1,^02", "1, 2^.0", "1, ^\xe2\x80", "1, ^\u2025", "1, \u2026^, 2", "1, \u2026 ^2", "1, \u2026 ^\u2026",
		"1, \u2026^.", "1, ...^.", "1, ...^...", "1, \u2026 ^~ 2", "1, \u2026 ^@integer 2", "1, \u2026 ^x", "1, \u2026 ^n = 1", "1, \u2026^,", "1~^", "1~ ^", "1~^~2", "1~^x",
		"1~^,2", "1~^\u2026", "1~^02", "1~^" + repeat("2", 41), "1~2^~3", "1~2 ^3", "1~2^.5", "1~2^..3", "1^..2", "2~^1", "1~^1", "1 ~ ^1", "10~^9", "1~^0, 5", "1~^0 x",
		"3~4, 1~^0", repeat("9", 40) + "~^" + repeat("9", 40), "5~3^.0", "1c6~^2", "1c6~^1c6", "1c6~^2c6", "1~^2c6", "1~^2e6", "1~ ^2c6, 3", "1~^1c1", "1~2c^", "1~2c^99",
		"1c6~2^.0", "1c6~^", "1c^", "1e^", "1c ^6", "1 ^c6", "1^cx", "1^ce6", "1^C6", "1c^,", "1c^0", "1c^00", "1c^01", "1c^06", "1c^21", "1e^21", "1c^100",
		"1c^18446744073709551617", "1c^" + repeat("1", 41), "1c^-6", "1c6^c6", "1c6^e6", "1c6 ^7", "1c6^.0", "1^x6", "1^d6", "1^n", "1c6^x",
	} {
		rejectedAtMark(t, "@integer "+text)
	}
}

// TestParseDecErrors: Rl1, the same, in the samples with a period.
func TestParseDecErrors(t *testing.T) {
	for _, text := range []string{
		"^.5", "^x", "^\u2026", "^01.5", "^00.0", "1^", "1 ^", "1\t\n^", "1^, 2.0", "1 ^, 2.0", "1^c6", "1 ^c6", "1^~2.0", "1 ^2", "1^..0", "1^...", "1 ^.0", "1\u200e^.0", "1.^",
		"1. ^", "1. ^0", "1.^x", "1.^c6", "1.^,", "1.^~", "1.0^.0", "1.0^..", "1.0 ^1", "1.0 ^c6", "1.0c^", "1.0c ^6", "1.0c^0", "1.0c^21", "1.0c^06", "1.0c6^.0", "1.0^x",
		"1.0^cc", "1.0, ^", "1.0, 2^", "1.0, 2^, \u2026", "1.0, \u2026 ^@integer 1", "1.0 ^@integer 1", "1.0 ^@decimal 1.0", "1.0^\u2026", "1.0, \u2026 ^3.0", "1.0 ^n = 1",
		"1^,0", "1.0~^", "1.0~2^", "1.0~2^, 3.0", "1.0~^x", "1.0~2.^", "1.0~^02.0", "2.0~^1.0", "1.0~^1.0", "1.1~^1.0", "1.0~^1.00", "1.0~^2.00", "1.00~^2.0", "1.0~^0.99",
		"10.0~^9.9", "1.0c6~^2.0", "1.0~^2.0c6", "1.0~2.0c^0", "1.0c6~^1.0c6", "5.0~3^", "0.5~^0.4 x", "1.0~2.0^~3.0", "^1" + repeat("0", 39) + ".5", "^" + repeat("1", 41) + ".5",
		"^0." + repeat("0", 40), "^" + repeat("1", 20) + "." + repeat("1", 21), "^" + repeat("1", 40) + ".5c99", "^" + repeat("1", 40) + ".5c", repeat("1", 40) + "^",
		repeat("1", 40) + ".^", repeat("1", 40) + "^c6", "1.0~^0." + repeat("1", 40), "1.0, ^2." + repeat("1", 40) + ", x",
	} {
		rejectedAtMark(t, "@decimal "+text)
	}
}

// TestParseNumbersOfAllSizes: Rl1, up to 40 digits, in all places of a number.
func TestParseNumbersOfAllSizes(t *testing.T) {
	for size := 1; size <= 60; size++ {
		number := repeat("7", size)
		for _, form := range []string{"n = #", "n = 1,#", "n = 1..#", "n = #..#", "n % # = 1", "n is not #", "n within #", "@integer #", "@integer #c20", "@integer 1~#", "@integer 1, #, ..."} {
			text, at := strings.ReplaceAll(form, "#", number), strings.Index(form, "#")
			if size <= 40 {
				if _, place, e := rule.Parse(text); place != 0 || e != api.OK {
					t.Errorf("Parse(%q): %d at %d", text, e, place)
				}
			} else {
				rejected(t, text, at, api.ErrRule)
			}
		}
		for places := 1; places < 60; places++ {
			text := "@decimal " + number + "." + repeat("0", places) + "c3"
			if size+places > 40 {
				rejected(t, text, len("@decimal "), api.ErrRule)
				continue
			}
			parsed(t, text, api.Rule{Decs: samplesOf(number + "." + repeat("0", places) + "c3")})
		}
	}
	for exp := range 120 {
		text := "@integer 5, 4c" + strconv.Itoa(exp)
		if 1 <= exp && exp <= 20 {
			parsed(t, text, api.Rule{Ints: samplesOf("5,4c" + strconv.Itoa(exp))})
		} else {
			rejected(t, text, len("@integer 5, 4c"), api.ErrRule)
		}
	}
}

// TestParseSpace: Rl1, white space is that of layer 1, and nothing else is.
func TestParseSpace(t *testing.T) {
	want := mustParse(t, "n mod 10 not in 1..3,5 and v is not 0 or i != 2 @integer 1~2,3,\u2026 @decimal 1.0~2.0,3.0c6,\u2026")
	for _, space := range append(spaces, "  ", "\r\n\t", "\u2029\u0085 ") {
		text := strings.Join([]string{"", "n", "mod", "10", "not", "in", "1", "..", "3", ",", "5", "and", "v", "is", "not", "0", "or", "i", "!=", "2", "@integer", "1", "~", "2", ",", "3", ",", "\u2026", "@decimal", "1.0", "~", "2.0", ",", "3.0c6", ",", "...", ""}, space)
		parsed(t, text, want)
	}
	for _, other := range []string{"\x00", "\x1f", "\x7f", "\x84", "\x85", "\xa0", "\xc2", "\xe2", "\xe2\x80", "\u0084", "\u00a0", "\u1680", "\u2000", "\u200b", "\u200d", "\u2010", "\u2027", "\u202a", "\u202f", "\u3000", "\ufeff", "\ufffd", "_", "\\", "\u180e"} {
		rejected(t, other+"n = 1", 0, api.ErrRule)
		rejected(t, "n"+other+"= 1", 1, api.ErrRule)
		rejected(t, "n ="+other+"1", 3, api.ErrRule)
		rejected(t, "n = 1"+other, 5, api.ErrRule)
		rejected(t, "@integer"+other+"1", 8, api.ErrRule)
		rejected(t, "@integer 1,"+other+"2", 11, api.ErrRule)
		rejected(t, "@decimal 1."+other+"2", 11, api.ErrRule)
		rejected(t, "n = 1 \u2028"+other, 9, api.ErrRule)
	}
	for _, space := range spaces { // none within a value, which goes on behind it
		rejected(t, "@decimal 1"+space+".5", 10+len(space), api.ErrRule)
		rejected(t, "@decimal 1."+space+"5", 11+len(space), api.ErrRule)
		rejected(t, "@decimal 1.5"+space+"c6", 12+len(space), api.ErrRule)
		rejected(t, "@decimal 1.5c"+space+"6", 13+len(space), api.ErrRule)
		rejected(t, "@integer 1"+space+"e6", 10+len(space), api.ErrRule)
		rejected(t, "@integer 1c"+space+"6", 11+len(space), api.ErrRule)
		rejected(t, "n = 1"+space+"2", 5+len(space), api.ErrRule)
		rejected(t, "n !"+space+"= 2", 2, api.ErrRule)
		rejected(t, "n = 1."+space+".2", 5, api.ErrRule)
		rejected(t, "@"+space+"integer 1", 0, api.ErrRule)
		rejected(t, "@integer 1, .."+space+".", 12, api.ErrRule)
	}
}

// TestParseOfEachByte: Rl1, whatever byte stands alone, or ahead of a rule or behind it.
func TestParseOfEachByte(t *testing.T) {
	for b := range 256 {
		one := string([]byte{byte(b)})
		switch {
		case strings.Contains("\t\n\v\f\r ", one):
			parsed(t, one, api.Rule{})
		case strings.Contains("nivwftce", one):
			rejected(t, one, 1, api.ErrRule)
		default:
			rejected(t, one, 0, api.ErrRule)
			rejected(t, " "+one+" n = 1", 1, api.ErrRule)
		}
		if strings.Contains("\t\n\v\f\r ", one) {
			continue
		}
		rejected(t, "n = 1 "+one, 6+strings.Count(",", one), api.ErrRule)
		rejected(t, "@decimal 1.0 "+one, 13+strings.Count(",~", one), api.ErrRule)
	}
}

// TestParseLimitOfRelations: Rl1, MaxRels.
func TestParseLimitOfRelations(t *testing.T) {
	for _, joint := range []string{" and ", " or "} {
		many := func(n int) string { return strings.TrimSuffix(repeat("n = 1"+joint, n), joint) }
		for _, n := range []int{1, 2, 63, 64} {
			r := mustParse(t, many(n))
			count := 0
			for _, and := range r.Or {
				count += len(and)
			}
			if count != n || joint == " or " && len(r.Or) != n || joint == " and " && len(r.Or) != 1 {
				t.Errorf("%d relations by %q: %d in %d lists", n, joint, count, len(r.Or))
			}
		}
		at := len(many(64) + joint)
		for _, end := range []string{"n = 1", "v = 0 @integer 1", "e", "n = 007", "i x", "n = 1" + joint + "n = 1"} {
			rejected(t, many(64)+joint+end, at, api.ErrFull)
		}
		for _, end := range []string{"", "x = 1", "5", "and", "@integer 1", "nn = 1"} { // none begins there
			rejected(t, many(64)+joint+end, at, api.ErrRule)
		}
		rejected(t, many(64)+" x", len(many(64))+1, api.ErrRule)
		rejected(t, "x "+many(70), 0, api.ErrRule)
		rejected(t, many(70)+" x", at, api.ErrFull)
	}
	mixed := repeat("n = 1 and v = 0 or ", 32)
	if r := mustParse(t, mixed[:len(mixed)-len(" or ")]); len(r.Or) != 32 {
		t.Errorf("32 lists: %d", len(r.Or))
	}
	rejected(t, mixed+"n = 1", len(mixed), api.ErrFull)
}

// TestParseLimitOfSpans: Rl1, MaxSpans of each relation.
func TestParseLimitOfSpans(t *testing.T) {
	many := func(n int) string { return strings.TrimSuffix(repeat("1,2..3,", n), ",") }
	r := mustParse(t, "n = "+many(32)+" and n within "+many(32)+" or n not in "+many(32))
	if len(r.Or[0][0].List) != 64 || len(r.Or[0][1].List) != 64 || len(r.Or[1][0].List) != 64 {
		t.Errorf("64 spans: %d, %d, %d", len(r.Or[0][0].List), len(r.Or[0][1].List), len(r.Or[1][0].List))
	}
	for _, begin := range []string{"n = ", "n % 10 != ", "v is 0 or n not within ", "n = " + many(32) + " and n in "} {
		text := begin + many(32) + ","
		for _, end := range []string{"1", " 2..3", "5..4", "007", "1, x", "1 and n = 1", repeat("9", 41)} {
			rejected(t, text+end, len(text)+strings.Count(end[:1], " "), api.ErrFull)
		}
		for _, end := range []string{"", "x", ",", "..", "\u2026"} {
			rejected(t, text+end, len(text), api.ErrRule)
		}
	}
	rejected(t, "n = 2..1,"+many(40), 7, api.ErrRule)
	rejected(t, "n = "+many(40)+" x", len("n = "+many(32)+","), api.ErrFull)
}

// TestParseLimitOfSamples: Rl1, MaxSpans of the samples of each kind.
func TestParseLimitOfSamples(t *testing.T) {
	ints := func(n int) string { return "@integer " + strings.TrimSuffix(repeat("1, 2~3, ", n), ", ") }
	decs := func(n int) string { return "@decimal " + strings.TrimSuffix(repeat("1.0, 2.0~3.0, ", n), ", ") }
	for _, end := range []string{"", ", \u2026", ", ..."} {
		r := mustParse(t, ints(32)+end+" "+decs(32)+end)
		if more := end != ""; len(r.Ints) != 64 || len(r.Decs) != 64 || r.IntMore != more || r.DecMore != more {
			t.Errorf("64 samples of each: %d %v, %d %v", len(r.Ints), r.IntMore, len(r.Decs), r.DecMore)
		}
	}
	for _, text := range []string{ints(32) + ", ", decs(32) + ",", "n = 1 " + ints(32) + " " + decs(32) + ", "} {
		for _, end := range []string{"1", "1.0", "1~2", "007", "2~1", "1, \u2026", "1 x", repeat("9", 41)} {
			rejected(t, text+end, len(text), api.ErrFull)
		}
		for _, end := range []string{"", "x", ",", "~", "..", ".", "@decimal 1.0"} {
			rejected(t, text+end, len(text), api.ErrRule)
		}
		rejected(t, text+"\u2026, 1", len(text)+3, api.ErrRule)
	}
}

// TestParseLong: Rl1, MaxText.
func TestParseLong(t *testing.T) {
	parsed(t, repeat(" ", 65536), api.Rule{})
	parsed(t, "n = 1"+repeat("\u2028", 21843)+"  ", oneOf(api.Rel{Op: "n", List: spansOf("1")}))
	rejected(t, repeat(" ", 65535)+"x", 65535, api.ErrRule)
	rejected(t, "n ="+repeat(" ", 65533), 65536, api.ErrRule)
	rejected(t, "n = "+repeat("1", 65532), 4, api.ErrRule)
	rejected(t, repeat("n", 65536), 0, api.ErrRule)
	for _, text := range []string{repeat(" ", 65537), "n = 1" + repeat(" ", 65532), "x" + repeat(" ", 65536), repeat("x", 65537), repeat("n = 1 and ", 6554), repeat("\xff", 1<<20), repeat("1", 1<<22)} {
		rejected(t, text, 0, api.ErrLong)
	}
}

// The syntax as an expression, in which a token is two bytes: an underline if it is joined to the one ahead of it, else a space; and its class.
const (
	listForm     = `.1(?:.:.1)?(?:.,.1(?:.:.1)?)*`
	relationForm = `.[oc](?:.m.1)?(?:.s(?:.n)?.1|(?:.n)?.[iw]` + listForm + `|.[=!]` + listForm + `)`
	andForm      = relationForm + `(?:.a` + relationForm + `)*`
	intsForm     = `.I.1(?:_c_1)?(?:.~.1(?:_c_1)?)?(?:.,.1(?:_c_1)?(?:.~.1(?:_c_1)?)?)*(?:.,.;)?`
	decsForm     = `.D.1_\._1(?:_c_1)?(?:.~.1_\._1(?:_c_1)?)?(?:.,.1_\._1(?:_c_1)?(?:.~.1_\._1(?:_c_1)?)?)*(?:.,.;)?`
)

var (
	ruleForm = regexp.MustCompile(`^(?:` + andForm + `(?:.r` + andForm + `)*)?(?:` + intsForm + `)?(?:` + decsForm + `)?$`)
	// Ranges with an exponent, which other tests go through.
	oddRange = regexp.MustCompile(`_c_1.~|~.1(?:_\._1)?_c`)
)

// endings is what may be put behind the beginning of a rule to make a rule of it, for all that may be missing.
var endings = []string{"", " 1", " = 1", " 1 = 1", " i 1", " o = 1", " 1_._1", "_._1", "_1"}

// spellings is the texts of the tokens of each class.
var spellings = map[byte][]string{
	'o': {"n", "i", "v", "w", "f", "t"}, 'c': {"c", "e"}, 'm': {"mod", "%"}, 's': {"is"}, 'n': {"not"}, 'i': {"in"}, 'w': {"within"}, '=': {"="}, '!': {"!="}, 'a': {"and"}, 'r': {"or"}, ',': {","}, '~': {"~"}, '.': {"."}, ':': {".."}, ';': {"...", "\u2026"}, 'I': {"@integer"}, 'D': {"@decimal"},
	'x': {"x", "nn", "ins", "nis", "modd", "other", "A", "!", "@", "-", "+", "<", "#", "{", ";", "\"", "_", "\xff", "\x00", "\u00e9", "\u2025", "\u2027", "\ufffd", "\U0001f600"},
}

const classes = "oocmsniw=!ar1111,~.:;IDx"

// classesOf is the classes of the tokens of a rule.
func classesOf(random *rand.Rand, r api.Rule) []byte {
	var all []byte
	for _, piece := range pieces(random, r) {
		for class, texts := range spellings {
			for _, text := range texts {
				if piece == text {
					all = append(all, class)
				}
			}
		}
		if piece[0] < '0' || piece[0] > '9' {
			continue
		}
		all = append(all, '1')
		if strings.Contains(piece, ".") {
			all = append(all, '.', '1')
		}
		if strings.ContainsAny(piece, "ce") {
			all = append(all, 'c', '1')
		}
	}
	return all
}

// changed is classes of which some are left out, put in, put in the place of others, or moved.
func changed(random *rand.Rand, all []byte) []byte {
	for range random.Intn(3) {
		at := random.Intn(len(all) + 1)
		class := classes[random.Intn(len(classes))]
		switch kind := random.Intn(5); {
		case kind == 0 || at == len(all):
			all = append(all[:at:at], append([]byte{class}, all[at:]...)...)
		case kind == 1:
			all = append(all[:at:at], all[at+1:]...)
		case kind == 2:
			all = append(all[:at:at], append([]byte{class}, all[at+1:]...)...)
		case kind == 3:
			other := random.Intn(len(all))
			all[at], all[other] = all[other], all[at]
		default:
			all = all[:at]
		}
	}
	return all
}

// spelled is a text of classes, the places of its tokens, and what ruleForm is asked for.
func spelled(random *rand.Rand, all []byte) (text string, places []int, codes string) {
	last := byte('x')
	for i, class := range all {
		token := "1"
		if class == '1' && last == '~' {
			token = "2"
		} else if class != '1' {
			token = spellings[class][random.Intn(len(spellings[class]))]
		}
		isOneValue := last == '.' || class == '.' || class == 'c' && last == '1' || last == 'c' && class == '1'
		space := anySpace(random, 0)
		if isOneValue && random.Intn(30) > 0 {
			space = ""
		}
		if i > 0 && space == "" && (last == 'x' || class == 'x' || isWord(text[len(text)-1]) && isWord(token[0]) || last == '1' && class == '1' || text[len(text)-1] == '.' && token[0] == '.') {
			space = " " // else they are one token
		}
		joint := " "
		if space == "" {
			joint = "_"
		}
		text += space
		places = append(places, len(text))
		text += token
		codes += joint + string(class)
		last = class
	}
	return text + anySpace(random, 0), places, codes
}

// wantFault is at which token a rule cannot go on; their number, if it ends too early; -1, if it is one.
func wantFault(codes string) int {
	if ruleForm.MatchString(codes) {
		return -1
	}
	n := len(codes) / 2
	return sort.Search(n, func(i int) bool {
		for _, ending := range endings {
			if ruleForm.MatchString(codes[:2*i+2] + ending) {
				return false
			}
		}
		return true
	})
}

// TestParseOfChangedTexts: Rl1, that the error is told at the first token that the syntax does not permit, or at the end.
func TestParseOfChangedTexts(t *testing.T) {
	random := rand.New(rand.NewSource(53))
	right, early, wrong := 0, 0, 0
	for range 30000 {
		text, places, codes := spelled(random, changed(random, classesOf(random, anyRule(random))))
		if oddRange.MatchString(codes) {
			continue
		}
		fault := wantFault(codes)
		at, want := 0, api.ErrRule
		switch {
		case fault < 0:
			want = api.OK
			right++
		case fault == len(places):
			at = len(text)
			early++
		default:
			at = places[fault]
			wrong++
		}
		if got, place, e := rule.Parse(text); place != at || e != want || e != api.OK && !same(got, api.Rule{}) {
			t.Fatalf("Parse(%q): %s, %d at %d, want %d at %d", text, clip(got), e, place, want, at)
		}
	}
	if right < 3000 || early < 2000 || wrong < 6000 {
		t.Errorf("tried only %d texts of rules, %d that end too early, %d others", right, early, wrong)
	}
}
