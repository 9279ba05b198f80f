package rule_test

import (
	"math/rand"
	"slices"
	"strings"
	"testing"
	"unsafe"

	"idiom/api"
	"idiom/rule"
)

// scraps is texts of which others are put together.
var scraps = []string{"n", "i", "c", "e", "mod", "%", "is", "not", "in", "within", "=", "!=", "and", "or", "0", "1", "12", "007", "99999999999999999999999999999999999999999", ",", "..", "...", "\u2026", "~", ".", "@integer", "@decimal", "@", "!", "x", "\xff", "\xe2\x80", "\u2028", "\u00a0", "\x00", " ", " ", " ", "c6", ".5", "n = 1", "@integer 1, ", "@decimal 1.0, "}

func anyScraps(random *rand.Rand) string {
	text := ""
	for range random.Intn(12) {
		text += scraps[random.Intn(len(scraps))]
	}
	return text
}

// TestAnyText: whatever is handed in, Parse ends, and answers a valid rule or an error with nothing but its place; and the same when it is asked again (R1, R2, R4, R5).
func TestAnyText(t *testing.T) {
	random := rand.New(rand.NewSource(59))
	for range 30000 {
		text := anyScraps(random)
		if random.Intn(2) == 0 { // a rule of which one byte is another one
			bytes := []byte(anyText(random, anyRule(random)) + " ")
			bytes[random.Intn(len(bytes))] = byte(random.Intn(256))
			text = string(bytes)
		}
		r, at, e := rule.Parse(text)
		again, at2, e2 := rule.Parse(text)
		if !same(r, again) || at != at2 || e != e2 {
			t.Fatalf("Parse(%q): %s %d %d, again %s %d %d", text, clip(r), at, e, clip(again), at2, e2)
		}
		switch {
		case e == api.OK && at == 0 && wantCheck(r) == api.OK:
			roundTrip(t, r)
		case e == api.ErrRule && 0 <= at && at <= len(text) && same(r, api.Rule{}):
			if strings.HasPrefix(text[at:], " ") { // no token
				t.Errorf("Parse(%q): error at %d", text, at)
			}
		default:
			t.Errorf("Parse(%q): %s %d %d", text, clip(r), at, e)
		}
	}
}

// anyWord is a string for any field of a rule.
func anyWord(random *rand.Rand) string {
	if random.Intn(3) > 0 {
		return anyNumber(random)
	}
	return append(append(slices.Clone(scraps), letters...), wrongNumbers...)[random.Intn(len(scraps)+len(letters)+len(wrongNumbers))]
}

// anyFields is a rule, which may be no valid one.
func anyFields(random *rand.Rand) api.Rule {
	var r api.Rule
	for range random.Intn(3) {
		var and []api.Rel
		for range random.Intn(4) {
			rel := api.Rel{Op: letters[random.Intn(len(letters))], Mod: anyWord(random)}
			for range random.Intn(4) {
				rel.List = append(rel.List, api.Span{Lo: anyWord(random), Hi: anyWord(random)})
			}
			and = append(and, rel)
		}
		r.Or = append(r.Or, and)
	}
	for range random.Intn(3) {
		r.Ints = append(r.Ints, api.Sample{Lo: anyWord(random), Hi: anyWord(random)})
		r.Decs = append(r.Decs, api.Sample{Lo: anyWord(random), Hi: anyWord(random)})
	}
	r.IntMore, r.DecMore = random.Intn(2) == 0, random.Intn(2) == 0
	return r
}

// TestAnyRule: whatever is handed in, the other calls end, and answer what the chapter says, or an error and nothing beside it; and the same when they are asked again (R1, R2, R4).
func TestAnyRule(t *testing.T) {
	random := rand.New(rand.NewSource(60))
	right, wrong := 0, 0
	for range 6000 {
		r := anyFields(random)
		if random.Intn(3) == 0 {
			r = anyRule(random)
		}
		want := wantCheck(r)
		if want != api.OK {
			wrong++
			unprinted(t, r, want)
			continue
		}
		right++
		printed(t, r, wantText(r))
		ints, decs, e := rule.Spread(r)
		ints2, decs2, e2 := rule.Spread(r)
		if !slices.Equal(ints, ints2) || !slices.Equal(decs, decs2) || e != e2 || e != api.OK && e != api.ErrFull {
			t.Errorf("Spread(%s): %s %s %d, again %s %s %d", clip(r), clip(ints), clip(decs), e, clip(ints2), clip(decs2), e2)
		}
	}
	if right < 1500 || wrong < 1500 {
		t.Errorf("tried only %d rules that are valid, %d that are not", right, wrong)
	}
}

// shares tells whether one of the texts lies in the memory of another one.
func shares(memory string, texts []string) bool {
	begin := uintptr(unsafe.Pointer(unsafe.StringData(memory)))
	return slices.ContainsFunc(texts, func(s string) bool {
		at := uintptr(unsafe.Pointer(unsafe.StringData(s)))
		return s != "" && begin <= at && at < begin+uintptr(len(memory))
	})
}

// textsOf is all strings of a rule.
func textsOf(r api.Rule) []string {
	var all []string
	for _, and := range r.Or {
		for _, rel := range and {
			all = append(all, rel.Op, rel.Mod)
			for _, s := range rel.List {
				all = append(all, s.Lo, s.Hi)
			}
		}
	}
	for _, s := range append(slices.Clone(r.Ints), r.Decs...) {
		all = append(all, s.Lo, s.Hi)
	}
	return all
}

// TestResultsAreNewMemory: R3, no result shares memory with an argument.
func TestResultsAreNewMemory(t *testing.T) {
	text := strings.Clone("n mod 10 is 7 and v within 1..3,55 or i != 5..5 @integer 12,1~3,1c6,\u2026 @decimal 1.25,1.0~1.1,1.0e3,...")
	r := mustParse(t, text)
	if shares(text, textsOf(r)) {
		t.Error("the result of Parse shares memory with the text")
	}
	ints, decs, e := rule.Spread(r)
	if e != api.OK {
		t.Fatalf("Spread: error %d", e)
	}
	for _, memory := range textsOf(r) {
		if shares(memory, append(ints, roundTrip(t, r))) || shares(memory, decs) {
			t.Error("a result shares memory with the rule")
		}
	}
}

// TestListsAreApart: R3, no two lists of one result share memory.
func TestListsAreApart(t *testing.T) {
	const text = "n = 1,2,3 and i = 4,5,6 or v = 7,8,9 or f = 1 and t is 2 and w is not 3 @integer 1, 2, 3 @decimal 1.0, 2.0, 3.0"
	r := mustParse(t, text)
	rel, span, sample := api.Rel{Op: "x"}, api.Span{Lo: "x"}, api.Sample{Lo: "x"}
	for i, and := range r.Or {
		for _, rel := range and {
			_ = append(rel.List, slices.Repeat([]api.Span{span}, 20)...)
			_ = append(rel.List, span)
		}
		_ = append(r.Or[i], rel)
		_ = append(r.Or[i], slices.Repeat([]api.Rel{rel}, 20)...)
	}
	_ = append(r.Ints, sample)
	_ = append(r.Decs, sample)
	_ = append(r.Or, []api.Rel{rel})
	parsed(t, text, r)
	r.Or[0][0].List[0], r.Ints[0] = span, sample
	if r.Or[0][1].List[0] == span || r.Or[1][0].List[0] == span || r.Decs[0] == sample {
		t.Error("one list lies in another one")
	}
	ints, decs, e := rule.Spread(mustParse(t, text))
	_, _ = append(ints, "x", "y"), append(decs, "z")
	if !slices.Equal(ints, []string{"1", "2", "3"}) || !slices.Equal(decs, []string{"1.0", "2.0", "3.0"}) || e != api.OK {
		t.Errorf("Spread: %s %s %d", clip(ints), clip(decs), e)
	}
	ints[0] = "x"
	if decs[0] != "1.0" {
		t.Error("one list lies in another one")
	}
}

// TestArgumentsStay: R3, a rule that is handed in is not changed.
func TestArgumentsStay(t *testing.T) {
	random := rand.New(rand.NewSource(61))
	for range 500 {
		r := anyRule(random)
		r.Or = slices.Grow(r.Or, 10)
		r.Ints = slices.Grow(r.Ints, 10)
		before := normal(r)
		rule.Check(r)
		rule.Print(r)
		rule.Spread(r)
		if !same(r, before) || slices.ContainsFunc(r.Ints[len(r.Ints):cap(r.Ints)], func(s api.Sample) bool { return s != api.Sample{} }) {
			t.Fatalf("a rule was changed: %s", clip(before))
		}
	}
}

// TestNilAndEmpty: R3, nil and empty lists are equivalent.
func TestNilAndEmpty(t *testing.T) {
	for _, text := range []string{"", "n = 1", "@integer 1", "@decimal 1.0"} {
		a := mustParse(t, text)
		b := normal(a)
		printed(t, a, text)
		printed(t, b, text)
		ints, decs, e := rule.Spread(a)
		ints2, decs2, e2 := rule.Spread(b)
		if !slices.Equal(ints, ints2) || !slices.Equal(decs, decs2) || e != e2 {
			t.Errorf("Spread of %q with empty lists: %s %s %d, with nil %s %s %d", text, clip(ints2), clip(decs2), e2, clip(ints), clip(decs), e)
		}
	}
}
