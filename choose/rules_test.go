package choose_test

import (
	"math/rand"
	"slices"
	"strings"
	"testing"
	"unsafe"

	"idiom/api"
	"idiom/choose"
)

// scraps is texts of which others are put together.
var scraps = []string{"one", "two", "few", "many", "zero", "other", "ones", "on", "x", ":", ":", ":", ": ", ";", "; ", ";", " ", " ", "\u2028", "\u00a0", "\n", "n = 1", "n = 1", "n", "i = 1 and v = 0", " @integer 1", " @integer 1, \u2026", "@decimal 1.0", "5", "..", "\xff", "\xe2\x80", "\x00", "O", "one: n = 1; ", "one: n = 1;", "two: v = 0;", "other:; "}

func anyScraps(random *rand.Rand) string {
	text := ""
	for range random.Intn(14) {
		text += scraps[random.Intn(len(scraps))]
	}
	return text
}

// TestAnyText: whatever is handed in, Parse ends, and answers what the definition says (R1, R2), and the same when it is asked again (R4).
func TestAnyText(t *testing.T) {
	random := rand.New(rand.NewSource(70))
	counts := map[api.Errno]int{}
	for range 40000 {
		text := anyScraps(random)
		if random.Intn(2) == 0 { // a set of which one byte is another one
			_, text = anySet(random)
			bytes := []byte(spaced(random, text) + " ")
			bytes[random.Intn(len(bytes))] = []byte("; :x1\xff\x80\x00o")[random.Intn(9)]
			text = string(bytes)
		}
		want, at, e := wantParse(text)
		counts[e]++
		for range 2 {
			if got, place, e2 := choose.Parse(text); !same(got, want) || place != at || e2 != e {
				t.Fatalf("Parse(%q): %s, %d at %d, want %s, %d at %d", text, clip(got), e2, place, clip(want), e, at)
			}
		}
	}
	for _, e := range []api.Errno{api.OK, api.ErrSet, api.ErrCategory, api.ErrTwice, api.ErrRule} {
		if counts[e] < 100 {
			t.Errorf("only %d texts with error %d", counts[e], e)
		}
	}
}

// TestAnySetAgain: the same answer to the same question, whatever is handed in (R1, R4).
func TestAnySetAgain(t *testing.T) {
	random := rand.New(rand.NewSource(71))
	sets := []api.Set{{}, {Rules: []api.Named{{}}}, {Rules: make([]api.Named, 1<<16)}, {Rules: []api.Named{{Cat: api.One, Rule: api.Rule{Or: make([][]api.Rel, 1<<16)}}}}}
	for _, wrong := range wrongSets() {
		sets = append(sets, wrong...)
	}
	for range 300 {
		set, _ := anySet(random)
		sets = append(sets, set)
	}
	for _, set := range sets {
		d, exp := dec(numbers()[random.Intn(300)]), random.Intn(45)-2
		answers := func() []any {
			text, e := choose.Print(set)
			misses, e2 := choose.Misses(set)
			cats, e3 := choose.Cats(set)
			cat, e4 := choose.Pick(set, d, exp)
			return []any{text, e, misses, e2, cats, e3, cat, e4, choose.Check(set)}
		}
		if a, b := answers(), answers(); !same(a, b) {
			t.Errorf("%s: %s, again %s", clip(set), clip(a), clip(b))
		}
	}
}

// shares tells whether one of the texts lies in the memory of another one.
func shares(memory string, texts []string) bool {
	begin := uintptr(unsafe.Pointer(unsafe.StringData(memory)))
	return slices.ContainsFunc(texts, func(s string) bool {
		at := uintptr(unsafe.Pointer(unsafe.StringData(s)))
		return s != "" && begin <= at && at < begin+uintptr(len(memory))
	})
}

// textsOf is all strings of a set.
func textsOf(set api.Set) []string {
	var all []string
	for _, named := range set.Rules {
		for _, and := range named.Rule.Or {
			for _, rel := range and {
				all = append(all, rel.Op, rel.Mod)
				for _, s := range rel.List {
					all = append(all, s.Lo, s.Hi)
				}
			}
		}
		for _, s := range append(slices.Clone(named.Rule.Ints), named.Rule.Decs...) {
			all = append(all, s.Lo, s.Hi)
		}
	}
	return all
}

// TestResultsAreNewMemory: R3, no result shares memory with an argument.
func TestResultsAreNewMemory(t *testing.T) {
	text := strings.Clone("one: n mod 10 is 7 and v within 1..3,55 @integer 12,1~3,1c6 @decimal 1.25; two: n = 5; other: @integer 7")
	set := mustParse(t, text)
	if shares(text, textsOf(set)) {
		t.Error("the result of Parse shares memory with the text")
	}
	misses, e := choose.Misses(set)
	if len(misses) != 6 || e != api.OK {
		t.Fatalf("Misses: %s %d", clip(misses), e)
	}
	printed, e := choose.Print(set)
	if e != api.OK {
		t.Fatalf("Print: error %d", e)
	}
	results := []string{printed}
	for _, miss := range misses {
		results = append(results, miss.Text)
	}
	for _, memory := range textsOf(set) {
		if shares(memory, results) {
			t.Error("a result shares memory with the set")
		}
	}
}

// TestListsAreApart: R3, no two lists of one result share memory.
func TestListsAreApart(t *testing.T) {
	const text = "one: n = 1,2 and i = 3,4 or v = 5 @integer 1, 2 @decimal 1.0, 2.0; two: n = 1,2 and i = 3,4 or v = 5 @integer 1, 2 @decimal 1.0, 2.0; other: @integer 1, 2"
	set := mustParse(t, text)
	rel, span, sample := api.Rel{Op: "x"}, api.Span{Lo: "x"}, api.Sample{Lo: "x"}
	for _, named := range set.Rules {
		for _, and := range named.Rule.Or {
			for _, r := range and {
				_ = append(r.List, span, span, span)
			}
			_ = append(and, rel, rel, rel)
		}
		_ = append(named.Rule.Or, []api.Rel{rel}, []api.Rel{rel})
		_ = append(named.Rule.Ints, sample, sample)
		_ = append(named.Rule.Decs, sample, sample)
	}
	parsed(t, text, set)
	set.Rules[0].Rule.Or[0][0].List[0], set.Rules[0].Rule.Ints[0] = span, sample
	if again := mustParse(t, text); !same(set.Rules[1:], again.Rules[1:]) {
		t.Error("one rule lies in another one")
	}
}

// TestArgumentsStay: R3, what is handed in is not changed.
func TestArgumentsStay(t *testing.T) {
	random := rand.New(rand.NewSource(72))
	for range 300 {
		set, _ := anySet(random)
		set.Rules = slices.Grow(set.Rules, 10)
		before := clip(set) + strings.Join(textsOf(set), " ")
		choose.Check(set)
		choose.Print(set)
		choose.Misses(set)
		choose.Cats(set)
		choose.Pick(set, dec("1.50"), 1)
		for _, named := range set.Rules {
			choose.Holds(named.Rule, opsOf("1.5", 0))
		}
		if clip(set)+strings.Join(textsOf(set), " ") != before || !same(set.Rules[len(set.Rules):cap(set.Rules)], make([]api.Named, cap(set.Rules)-len(set.Rules))) {
			t.Fatalf("a set was changed: %s", before)
		}
	}
	rows := []api.RangeRow{{From: api.One, To: api.Two, Cat: api.Few}, {From: api.Two, To: api.One, Cat: api.Many}}
	before := slices.Clone(rows)
	if choose.Range(rows, api.Two, api.One); !slices.Equal(rows, before) {
		t.Errorf("rows were changed: %v", rows)
	}
}

// TestNilAndEmpty: R3, nil and empty lists are equivalent.
func TestNilAndEmpty(t *testing.T) {
	if text, e := choose.Print(api.Set{Rules: []api.Named{}}); text != "" || e != api.OK {
		t.Errorf("Print of an empty list: %q %d", text, e)
	}
	empty := api.Rule{Or: [][]api.Rel{}, Ints: []api.Sample{}, Decs: []api.Sample{}}
	for want, cat := range map[api.Errno]int{api.OK: api.Other, api.ErrSet: api.One} {
		for _, r := range []api.Rule{{}, empty} {
			if e := choose.Check(api.Set{Rules: []api.Named{{Cat: cat, Rule: r}}}); e != want {
				t.Errorf("Check of %s with category %d: %d, want %d", clip(r), cat, e, want)
			}
		}
	}
	if held, e := choose.Holds(empty, opsOf("1", 0)); !held || e != api.OK {
		t.Errorf("Holds of empty lists: %t %d", held, e)
	}
	if got, e := choose.Range([]api.RangeRow{}, api.One, api.Two); got != api.Two || e != api.OK {
		t.Errorf("Range of no rows: %d %d", got, e)
	}
}
