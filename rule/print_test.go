package rule_test

import (
	"math/rand"
	"slices"
	"strconv"
	"testing"

	"idiom/api"
	"idiom/rule"
)

// printed asks for the text of a rule.
func printed(t *testing.T, r api.Rule, want string) {
	t.Helper()
	if e := rule.Check(r); e != api.OK {
		t.Errorf("Check(%s): %d", clip(r), e)
	}
	if got, e := rule.Print(r); got != want || e != api.OK {
		t.Errorf("Print(%s): %.200q %d, want %.200q", clip(r), got, e, want)
	}
}

// unprinted asks for the error of a rule that is not valid, of all calls that take one.
func unprinted(t *testing.T, r api.Rule, want api.Errno) {
	t.Helper()
	if e := rule.Check(r); e != want {
		t.Errorf("Check(%s): %d, want %d", clip(r), e, want)
	}
	if got, e := rule.Print(r); got != "" || e != want {
		t.Errorf("Print(%s): %.200q %d, want %d", clip(r), got, e, want)
	}
	if ints, decs, e := rule.Spread(r); ints != nil || decs != nil || e != want {
		t.Errorf("Spread(%s): %s %s %d, want %d", clip(r), clip(ints), clip(decs), e, want)
	}
}

// TestPrint: Rl2, written out.
func TestPrint(t *testing.T) {
	printed(t, api.Rule{}, "")
	printed(t, api.Rule{Or: [][]api.Rel{}, Ints: []api.Sample{}, Decs: []api.Sample{}}, "")
	for _, x := range []struct {
		rel  api.Rel
		want string
	}{
		{api.Rel{Op: "n", List: spansOf("1")}, "n = 1"},
		{api.Rel{Op: "i", Not: true, List: spansOf("1")}, "i != 1"},
		{api.Rel{Op: "v", Within: true, List: spansOf("1")}, "v within 1"},
		{api.Rel{Op: "w", Not: true, Within: true, List: spansOf("1")}, "w not within 1"},
		{api.Rel{Op: "f", Mod: "10", List: spansOf("0..2")}, "f % 10 = 0..2"},
		{api.Rel{Op: "t", Mod: "1", Not: true, List: spansOf("0..2,4,6..8,10")}, "t % 1 != 0..2,4,6..8,10"},
		{api.Rel{Op: "c", Mod: "100", Within: true, List: spansOf("3,2,1")}, "c % 100 within 3,2,1"},
		{api.Rel{Op: "e", Mod: repeat("9", 40), Not: true, Within: true, List: spansOf("0.." + repeat("9", 40))}, "e % " + repeat("9", 40) + " not within 0.." + repeat("9", 40)},
	} {
		printed(t, oneOf(x.rel), x.want)
	}
	a, b, c := api.Rel{Op: "n", List: spansOf("1")}, api.Rel{Op: "v", Not: true, List: spansOf("2..3")}, api.Rel{Op: "f", Mod: "4", Within: true, List: spansOf("5,6")}
	printed(t, api.Rule{Or: [][]api.Rel{{a, b, c}}}, "n = 1 and v != 2..3 and f % 4 within 5,6")
	printed(t, api.Rule{Or: [][]api.Rel{{a}, {b}, {c}}}, "n = 1 or v != 2..3 or f % 4 within 5,6")
	printed(t, api.Rule{Or: [][]api.Rel{{a}, {b, c}, {a, a}}}, "n = 1 or v != 2..3 and f % 4 within 5,6 or n = 1 and n = 1")
	printed(t, api.Rule{Ints: samplesOf("1")}, "@integer 1")
	printed(t, api.Rule{Ints: samplesOf("0~2,100,1c6"), IntMore: true}, "@integer 0~2, 100, 1c6, \u2026")
	printed(t, api.Rule{Decs: samplesOf("1.0")}, "@decimal 1.0")
	printed(t, api.Rule{Decs: samplesOf("1.1c20,0.00~0.04"), DecMore: true}, "@decimal 1.1c20, 0.00~0.04, \u2026")
	printed(t, api.Rule{Ints: samplesOf("1"), Decs: samplesOf("1.0")}, "@integer 1 @decimal 1.0")
	printed(t, api.Rule{Ints: samplesOf("1"), IntMore: true, Decs: samplesOf("1.0")}, "@integer 1, \u2026 @decimal 1.0")
	printed(t, api.Rule{Or: [][]api.Rel{{a}}, Decs: samplesOf("1.0"), DecMore: true}, "n = 1 @decimal 1.0, \u2026")
	printed(t, api.Rule{Or: [][]api.Rel{{a}, {a}}, Ints: samplesOf("1,3"), Decs: samplesOf("1.0~1.2"), DecMore: true}, "n = 1 or n = 1 @integer 1, 3 @decimal 1.0~1.2, \u2026")
}

// TestPrintOfParsed: Rl2, the examples, and other spellings.
func TestPrintOfParsed(t *testing.T) {
	for text, want := range map[string]string{
		"n mod 10 is 1 or n within 3..5": "n % 10 = 1 or n within 3..5",
		"n is not 1":                     "n != 1",
		"n in 1..3":                      "n = 1..3",
		"n not in 1..3, 5":               "n != 1..3,5",
		"n  not\twithin 1 .. 3 ,5":       "n not within 1..3,5",
		"n=1..1":                         "n = 1",
		"n%10!=1and v=0or i is 3@integer1e6,2~3,...@decimal 1.0": "n % 10 != 1 and v = 0 or i = 3 @integer 1c6, 2~3, \u2026 @decimal 1.0",
		" @decimal 1.50e3 ,... ":                                 "@decimal 1.50c3, \u2026",
		" ":                                                      "",
	} {
		printed(t, mustParse(t, text), want)
	}
	for _, text := range standard {
		printed(t, mustParse(t, text), text)
	}
}

// TestPrintOfAnyRule: Rl2.
func TestPrintOfAnyRule(t *testing.T) {
	random := rand.New(rand.NewSource(54))
	for range 10000 {
		r := anyRule(random)
		printed(t, r, wantText(r))
	}
}

// parts is n numbers, as equal as can be, whose sum is all.
func parts(all, n int) []int {
	sizes := make([]int, n)
	for i := range sizes {
		sizes[i] = (all + i) / n
	}
	return sizes
}

// longRule is a rule whose text has so many bytes, in relations of up to 64 numbers of up to 40 digits.
func longRule(size int) api.Rule {
	var and []api.Rel
	count := (size + 2631) / 2632 // 4 + 64 * 41 - 1 bytes, and 5 between two of them
	for _, bytes := range parts(size-5*(count-1), count) {
		rel := api.Rel{Op: "n"}
		digits := bytes - len("n = ")
		spans := (digits + 41) / 41
		for _, n := range parts(digits-(spans-1), spans) {
			rel.List = append(rel.List, api.Span{Lo: repeat("1", n), Hi: repeat("1", n)})
		}
		and = append(and, rel)
	}
	return api.Rule{Or: [][]api.Rel{and}}
}

// TestPrintLong: Rl2, MaxText.
func TestPrintLong(t *testing.T) {
	for _, size := range []int{65000, 65534, 65535, 65536} {
		r := longRule(size)
		want := wantText(r)
		if len(want) != size {
			t.Fatalf("a text of %d bytes instead of %d", len(want), size)
		}
		printed(t, r, want)
		parsed(t, want, r)
		r.Ints = samplesOf("1")
		if got, e := rule.Print(r); (e == api.OK) != (size == 65000) || e != api.OK && (got != "" || e != api.ErrLong) {
			t.Errorf("Print with samples, %d bytes: %.50q %d", size+11, got, e)
		}
	}
	for _, size := range []int{65537, 65538, 70000, 100000} {
		r := longRule(size)
		if got, e := rule.Print(r); got != "" || e != api.ErrLong {
			t.Errorf("Print, %d bytes: %.50q %d", size, got, e)
		}
		if e := rule.Check(r); e != api.OK {
			t.Errorf("Check of a long rule: %d", e)
		}
		r.IntMore = true
		unprinted(t, r, api.ErrRule)
	}
}

// wrongNumbers is strings that are not numbers.
var wrongNumbers = []string{
	"", "00", "01", "007", "-1", "+1", "-0", "1.0", "1.", ".5", "1,0", "1e3", "1c3", "0x1", " 1", "1 ", "1\n", "a", "1a", "n", "1..2", "/", ":", "\x00", "\xff", "1\xff", "\u0661", "\uff11", repeat("9", 41), "1" + repeat("0", 40), repeat("0", 40), repeat("9", 1<<17),
}

// TestCheckRelations: Rl2, each violation of a relation.
func TestCheckRelations(t *testing.T) {
	right := api.Rel{Op: "n", Mod: "10", Not: true, Within: true, List: spansOf("1..3,5")}
	refused := func(change func(rel *api.Rel)) {
		t.Helper()
		rel := right
		rel.List = slices.Clone(right.List)
		change(&rel)
		unprinted(t, oneOf(rel), api.ErrRule)
		unprinted(t, api.Rule{Or: [][]api.Rel{{right, right}, {right, rel}}, Ints: samplesOf("1")}, api.ErrRule)
	}
	for _, op := range []string{"", "x", "N", "nn", " n", "n ", "n = 1", "and", "\xff", "\uff4e", "ce", "0", repeat("n", 1<<17)} {
		refused(func(rel *api.Rel) { rel.Op = op })
	}
	for _, n := range wrongNumbers {
		if n != "" {
			refused(func(rel *api.Rel) { rel.Mod = n })
		}
		refused(func(rel *api.Rel) { rel.List[0].Lo = n })
		refused(func(rel *api.Rel) { rel.List[0].Hi = n })
		refused(func(rel *api.Rel) { rel.List[1] = api.Span{Lo: n, Hi: n} })
	}
	refused(func(rel *api.Rel) { rel.Mod = "0" })
	refused(func(rel *api.Rel) { rel.List = nil })
	refused(func(rel *api.Rel) { rel.List = []api.Span{} })
	for _, s := range []string{"2..1", "1..0", "10..9", "100..99", repeat("9", 40) + ".." + repeat("9", 39), repeat("9", 40) + ".." + repeat("9", 39) + "8"} {
		refused(func(rel *api.Rel) { rel.List = spansOf("1," + s) })
	}
	for _, s := range []string{"0..0", "0..1", "9..10", "99..100", repeat("9", 39) + ".." + repeat("9", 40), "0.." + repeat("9", 40)} {
		right.List = spansOf(s)
		if e := rule.Check(oneOf(right)); e != api.OK {
			t.Errorf("Check(%s): %d", clip(right), e)
		}
	}
	for _, op := range letters {
		right.Op = op
		if e := rule.Check(oneOf(right)); e != api.OK {
			t.Errorf("Check(%s): %d", clip(right), e)
		}
	}
	unprinted(t, api.Rule{Or: [][]api.Rel{nil}}, api.ErrRule)
	unprinted(t, api.Rule{Or: [][]api.Rel{{}}}, api.ErrRule)
	unprinted(t, api.Rule{Or: [][]api.Rel{{right}, {}, {right}}}, api.ErrRule)
	unprinted(t, api.Rule{Or: make([][]api.Rel, 100000)}, api.ErrRule)
}

// TestCheckSamples: Rl2, each violation of a sample.
func TestCheckSamples(t *testing.T) {
	try := func(s api.Sample, isInt, isDec bool) {
		t.Helper()
		for _, before := range [][]api.Sample{nil, samplesOf("1"), samplesOf("1~2,3c6")} {
			r := api.Rule{Ints: append(before, s), IntMore: true}
			if e := rule.Check(r); (e == api.OK) != isInt {
				t.Errorf("Check(%s): %d", clip(r), e)
			}
			if !isInt {
				unprinted(t, r, api.ErrRule)
			}
		}
		for _, before := range [][]api.Sample{nil, samplesOf("1.0"), samplesOf("1.0~2.0,3.0c6")} {
			r := api.Rule{Ints: samplesOf("1"), Decs: append(before, s), DecMore: true}
			if e := rule.Check(r); (e == api.OK) != isDec {
				t.Errorf("Check(%s): %d", clip(r), e)
			}
			if !isDec {
				unprinted(t, r, api.ErrRule)
			}
		}
	}
	for _, text := range []string{"0", "1", "10", repeat("9", 40), "1c1", "0c20", repeat("9", 40) + "c10", "0~1", "9~10", "99~100", repeat("9", 39) + "~" + repeat("9", 40), "0~" + repeat("9", 40)} {
		try(samplesOf(text)[0], true, false)
	}
	for _, text := range []string{"0.0", "1.50", "0.00", "1.0c1", "0.0c20", "0." + repeat("0", 39), repeat("9", 39) + ".9", "1.0~1.1", "9.9~10.0", "0.00~0.01", "0." + repeat("0", 39) + "~0." + repeat("9", 39), "0.9~1.0", "0.99~" + repeat("9", 38) + ".00"} {
		try(samplesOf(text)[0], false, true)
	}
	for _, text := range append(slices.Clone(wrongNumbers), "1c", "c", "c6", "1c0", "1c00", "1c01", "1c06", "1c21", "1c100", "1c-1", "1c+6", "1c1.0", "1c6c6", "1C6", "1e6", "1 c6", "1c 6", "1c18446744073709551617", "1c"+repeat("1", 41), "-0.5", "-1.5", "00.5", "01.0", "1..0", "1.5.5", "1.x", "1. 5", "1.5 ", "1.5\n", ".0", "1.0e6", "1.0c", "1.0c0", "1.0c21", "1.0c06", "1.0c6.0", "c.5", "~", "1~2", "\u2026", "...", "0."+repeat("0", 40), repeat("1", 40)+".5", repeat("1", 20)+"."+repeat("1", 21), "0."+repeat("0", 1<<17), repeat("1", 41)+"c6", "1.0\xff", "1.\u0661") {
		if !isValue(text, false) && !isValue(text, true) {
			try(api.Sample{Lo: text, Hi: text}, false, false)
		}
		try(api.Sample{Lo: "0", Hi: text}, isSample(api.Sample{Lo: "0", Hi: text}, false), false)
		try(api.Sample{Lo: "0.0", Hi: text}, false, isSample(api.Sample{Lo: "0.0", Hi: text}, true))
		try(api.Sample{Lo: text, Hi: repeat("9", 40)}, isSample(api.Sample{Lo: text, Hi: repeat("9", 40)}, false), false)
	}
	for _, text := range []string{"2~1", "10~9", "1~1c1", "1c1~2", "1c1~2c1", "1~2c1", "1c1~1c2", "1~2.0", "1.0~2", "2.0~1.0", "1.0~1.00", "1.0~2.00", "1.00~2.0", "1.1~1.0", "1.0~2.0c1", "1.0c1~2.0", "1.0c1~2.0c1", "10.0~9.9", repeat("9", 40) + "~" + repeat("9", 39), "1~", "~1", "1.0~", "~1.0"} {
		try(samplesOf(text)[0], false, false)
	}
	a, b := samplesOf("1"), samplesOf("1.0")
	unprinted(t, api.Rule{IntMore: true}, api.ErrRule)
	unprinted(t, api.Rule{DecMore: true}, api.ErrRule)
	unprinted(t, api.Rule{Ints: a, DecMore: true}, api.ErrRule)
	unprinted(t, api.Rule{Decs: b, IntMore: true}, api.ErrRule)
	unprinted(t, api.Rule{Or: mustParse(t, "n = 1").Or, Ints: []api.Sample{}, IntMore: true, Decs: b, DecMore: true}, api.ErrRule)
	unprinted(t, api.Rule{Ints: b}, api.ErrRule)
	unprinted(t, api.Rule{Decs: a}, api.ErrRule)
}

// TestCheckLimits: Rl2, one more than permitted of each kind is ErrFull.
func TestCheckLimits(t *testing.T) {
	one := api.Rel{Op: "n", List: spansOf("1")}
	for _, n := range []int{63, 64, 65, 66, 1000, 100000} {
		want := api.OK
		if n > 64 {
			want = api.ErrFull
		}
		apart := make([][]api.Rel, n)
		for i := range apart {
			apart[i] = []api.Rel{one}
		}
		long := one
		long.List = slices.Repeat(spansOf("1"), n)
		for name, r := range map[string]api.Rule{
			"relations of one list":   {Or: [][]api.Rel{slices.Repeat([]api.Rel{one}, n)}},
			"relations of all lists":  {Or: apart},
			"relations of both lists": {Or: [][]api.Rel{slices.Repeat([]api.Rel{one}, n-10), slices.Repeat([]api.Rel{one}, 10)}},
			"spans":                   {Or: [][]api.Rel{{one, long}}},
			"integers":                {Ints: slices.Repeat(samplesOf("1"), n), IntMore: true},
			"decimals":                {Ints: slices.Repeat(samplesOf("1"), min(n, 64)), Decs: slices.Repeat(samplesOf("1.0"), n)},
		} {
			if e := rule.Check(r); e != want {
				t.Errorf("Check of %d %s: %d", n, name, e)
			}
			if want != api.OK {
				unprinted(t, r, want)
			}
		}
	}
}

// TestCheckOrder: Rl2, that the first violation counts, in the order of the chapter.
func TestCheckOrder(t *testing.T) {
	one, wrong := api.Rel{Op: "n", List: spansOf("1")}, api.Rel{Op: "x", List: spansOf("1")}
	full := api.Rel{Op: "n", List: slices.Repeat(spansOf("1"), 65)}
	many, manyFull := slices.Repeat([]api.Rel{one}, 64), slices.Repeat(samplesOf("1"), 65)
	for i, x := range []struct {
		want api.Errno
		r    api.Rule
	}{
		{api.ErrRule, api.Rule{Or: [][]api.Rel{{wrong, full}}}},
		{api.ErrFull, api.Rule{Or: [][]api.Rel{{full, wrong}}}},
		{api.ErrRule, api.Rule{Or: [][]api.Rel{{}, {full}}}},
		{api.ErrFull, api.Rule{Or: [][]api.Rel{{full}, {}}}},
		{api.ErrFull, api.Rule{Or: [][]api.Rel{many, {wrong}}}},
		{api.ErrFull, api.Rule{Or: [][]api.Rel{append(slices.Clone(many), wrong)}}},
		{api.ErrRule, api.Rule{Or: [][]api.Rel{many, {}}}},
		{api.ErrRule, api.Rule{Or: [][]api.Rel{append([]api.Rel{wrong}, many...)}}},
		{api.ErrRule, api.Rule{Or: [][]api.Rel{append(slices.Clone(many[:63]), wrong, one)}}},
		{api.ErrFull, api.Rule{Or: [][]api.Rel{append(slices.Clone(many), one), {}}}},
		{api.ErrRule, api.Rule{Or: [][]api.Rel{{{Op: "x", List: full.List}}}}},
		{api.ErrRule, api.Rule{Or: [][]api.Rel{{{Op: "n", Mod: "0", List: full.List}}}}},
		{api.ErrRule, api.Rule{Or: [][]api.Rel{{{Op: "n", List: append(spansOf("2..1"), full.List...)}}}}},
		{api.ErrRule, api.Rule{Or: [][]api.Rel{{{Op: "n", List: append(slices.Clone(full.List[:63]), spansOf("007,1")...)}}}}},
		{api.ErrFull, api.Rule{Or: [][]api.Rel{{{Op: "n", List: append(slices.Clone(full.List[:64]), spansOf("007")...)}}}}},
		{api.ErrFull, api.Rule{Or: [][]api.Rel{{full}}, Ints: samplesOf("x")}},
		{api.ErrRule, api.Rule{Or: [][]api.Rel{{wrong}}, Ints: manyFull}},
		{api.ErrRule, api.Rule{Ints: append(samplesOf("x"), manyFull...)}},
		{api.ErrRule, api.Rule{Ints: append(slices.Clone(manyFull[:63]), samplesOf("2~1,1")...)}},
		{api.ErrFull, api.Rule{Ints: append(slices.Clone(manyFull[:64]), samplesOf("x")...)}},
		{api.ErrFull, api.Rule{Ints: manyFull, Decs: samplesOf("x")}},
		{api.ErrRule, api.Rule{Ints: samplesOf("x"), Decs: slices.Repeat(samplesOf("1.0"), 65)}},
		{api.ErrFull, api.Rule{IntMore: true, Decs: slices.Repeat(samplesOf("1.0"), 65)}},
		{api.ErrFull, api.Rule{Decs: append(slices.Repeat(samplesOf("1.0"), 64), samplesOf("x")...), IntMore: true}},
		{api.ErrRule, api.Rule{Decs: append(samplesOf("1"), slices.Repeat(samplesOf("1.0"), 65)...)}},
	} {
		if want := wantCheck(x.r); want != x.want {
			t.Errorf("%d: the test takes it for %d", i, want)
		}
		unprinted(t, x.r, x.want)
	}
}

// TestCheckOfChangedRules: Rl2, by the definition.
func TestCheckOfChangedRules(t *testing.T) {
	random := rand.New(rand.NewSource(55))
	words := append(slices.Clone(wrongNumbers[:len(wrongNumbers)-1]), "0", "1", "7", "1.0", "2.50", "3c6", "1.5c2", "n", "x", "e", "1c99", repeat("9", 40))
	word := func(s *string) {
		if *s = words[random.Intn(len(words))]; random.Intn(4) == 0 {
			*s = strconv.Itoa(random.Intn(30))
		}
	}
	right, wrong := 0, 0
	for range 30000 {
		r := anyRule(random)
		for range 1 + random.Intn(2) {
			if len(r.Or) > 0 && random.Intn(2) == 0 {
				and := r.Or[random.Intn(len(r.Or))]
				rel := &and[random.Intn(len(and))]
				span := &rel.List[random.Intn(len(rel.List))]
				word([]*string{&rel.Op, &rel.Mod, &span.Lo, &span.Hi}[random.Intn(4)])
			}
			for _, list := range [][]api.Sample{r.Ints, r.Decs} {
				if len(list) > 0 && random.Intn(4) == 0 {
					s := &list[random.Intn(len(list))]
					word([]*string{&s.Lo, &s.Hi}[random.Intn(2)])
				}
			}
		}
		if random.Intn(8) == 0 {
			r.IntMore, r.DecMore = random.Intn(2) == 0, random.Intn(2) == 0
		}
		if want := wantCheck(r); want == api.OK {
			right++
			printed(t, r, wantText(r))
		} else {
			wrong++
			unprinted(t, r, want)
		}
	}
	if right < 3000 || wrong < 10000 {
		t.Errorf("tried only %d rules that are valid, %d that are not", right, wrong)
	}
}
