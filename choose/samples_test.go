package choose_test

import (
	"fmt"
	"math/big"
	"math/rand"
	"regexp"
	"slices"
	"strconv"
	"strings"
	"testing"

	"idiom/api"
	"idiom/choose"
	"idiom/operand"
	"idiom/rule"
)

// What the tests hold the program against is worked out here by package regexp, by package math/big and by the calls of the layers below.

const all40 = "9999999999999999999999999999999999999999"

// words is the names of the categories, by their numbers.
var words = []string{"other", "zero", "one", "two", "few", "many"}

// noCategories is numbers that are none.
var noCategories = []int{-1, 6, 7, -6, 256, 1 << 32, -(1 << 32), 1<<63 - 1, -1 << 63}

// spaces is all white space.
var spaces = []string{"\t", "\n", "\v", "\f", "\r", " ", "\u0085", "\u200e", "\u200f", "\u2028", "\u2029"}

func repeat(s string, n int) string {
	return strings.Repeat(s, n)
}

// clip is what a message of a test tells of a value that may be long.
func clip(value any) string {
	text := fmt.Sprintf("%+v", value)
	return text[:min(len(text), 300)]
}

// same tells whether two values are the same one, a nil list being an empty one.
func same(a, b any) bool {
	return fmt.Sprintf("%q", a) == fmt.Sprintf("%q", b)
}

// dec takes apart the text of a decimal.
func dec(text string) api.Dec {
	var d api.Dec
	text, d.Neg = strings.CutPrefix(text, "-")
	d.Int, d.Frac, _ = strings.Cut(text, ".")
	return d
}

// ruleOf is the rule of a text.
func ruleOf(text string) api.Rule {
	r, at, e := rule.Parse(text)
	if e != api.OK {
		panic(fmt.Sprintf("no rule: %q, %d at %d", text, e, at))
	}
	return r
}

// setOf is the set of texts as in `one: n = 1`.
func setOf(texts ...string) api.Set {
	var set api.Set
	for _, text := range texts {
		word, condition, _ := strings.Cut(text, ":")
		set.Rules = append(set.Rules, api.Named{Cat: slices.Index(words, word), Rule: ruleOf(condition)})
	}
	return set
}

// opsOf is the operands of a text.
func opsOf(text string, exp int) api.Ops {
	o, e := operand.Of(dec(text), exp)
	if e != api.OK {
		panic("no operands: " + text)
	}
	return o
}

// numbers is texts of numbers that rules tell apart.
func numbers() []string {
	var all []string
	for n := range 130 {
		all = append(all, strconv.Itoa(n))
	}
	for _, n := range []int{200, 201, 211, 999, 1000, 1001, 1002, 1011, 20000, 40000, 100000, 999999, 1000000, 1000001, 2000000, 3000000} {
		all = append(all, strconv.Itoa(n))
	}
	for _, whole := range []string{"0", "1", "2", "3", "5", "10", "11", "12", "21", "22", "100", "101", "1000000"} {
		for _, frac := range []string{"0", "00", "000", "1", "10", "2", "5", "9", "01", "02", "11", "12", "21", "22", "31", "110", "0000001"} {
			all = append(all, whole+"."+frac)
		}
	}
	for _, n := range slices.Clone(all) {
		if strings.Trim(n, "0.") != "" {
			all = append(all, "-"+n)
		}
	}
	return all
}

// shown is a number as rules see it.
type shown struct {
	n          *big.Rat
	i, v, f, t int
	w, e       int
}

// is tells whether n is one of these integers.
func (x shown) is(list ...int) bool {
	return slices.ContainsFunc(list, func(i int) bool { return x.n.Cmp(big.NewRat(int64(i), 1)) == 0 })
}

// rest is n modulo a number, or -1 if that is no integer.
func (x shown) rest(by int) int {
	if !x.n.IsInt() {
		return -1
	}
	return int(new(big.Int).Rem(x.n.Num(), big.NewInt(int64(by))).Int64())
}

// shownOf is the number of a text (not a long one) and an exponent.
func shownOf(text string, exp int) shown {
	whole, frac, _ := strings.Cut(strings.TrimPrefix(text, "-"), ".")
	frac += repeat("0", max(0, exp-len(frac)))
	whole, frac = whole+frac[:exp], frac[exp:]
	n, _ := new(big.Rat).SetString(whole + "." + frac)
	x := shown{n: n, v: len(frac), w: len(strings.TrimRight(frac, "0")), e: exp}
	x.i, _ = strconv.Atoi(whole)
	x.f, _ = strconv.Atoi(frac)
	x.t, _ = strconv.Atoi(strings.TrimRight(frac, "0"))
	return x
}

func between(n, lo, hi int) bool {
	return lo <= n && n <= hi
}

// language is rules of the data of CLDR, and what they say as a function.
type language struct {
	text string
	cat  func(x shown) int
}

// firstOf is the category behind the first condition that holds.
func firstOf(pairs ...any) int {
	for i := 0; i < len(pairs); i += 2 {
		if pairs[i+1].(bool) {
			return pairs[i].(int)
		}
	}
	return api.Other
}

// languages is the rules of some languages.
var languages = map[string]language{
	"en": {"one: i = 1 and v = 0 @integer 1; other: @integer 0, 2~16, 100, 1000, \u2026 @decimal 0.0~1.5, 10.0, \u2026", func(x shown) int {
		return firstOf(api.One, x.i == 1 && x.v == 0)
	}},
	"ordinals of en": {"one: n % 10 = 1 and n % 100 != 11; two: n % 10 = 2 and n % 100 != 12; few: n % 10 = 3 and n % 100 != 13; other:", func(x shown) int {
		return firstOf(api.One, x.rest(10) == 1 && x.rest(100) != 11, api.Two, x.rest(10) == 2 && x.rest(100) != 12, api.Few, x.rest(10) == 3 && x.rest(100) != 13)
	}},
	"fr": {"one: i = 0,1; many: e = 0 and i != 0 and i % 1000000 = 0 and v = 0 or e != 0..5; other:", func(x shown) int {
		return firstOf(api.One, between(x.i, 0, 1), api.Many, x.e == 0 && x.i != 0 && x.i%1000000 == 0 && x.v == 0 || !between(x.e, 0, 5))
	}},
	"da": {"one: n = 1 or t != 0 and i = 0,1; other:", func(x shown) int {
		return firstOf(api.One, x.is(1) || x.t != 0 && between(x.i, 0, 1))
	}},
	"pl": {"one: i = 1 and v = 0; few: v = 0 and i % 10 = 2..4 and i % 100 != 12..14; many: v = 0 and i != 1 and i % 10 = 0..1 or v = 0 and i % 10 = 5..9 or v = 0 and i % 100 = 12..14; other:", func(x shown) int {
		few := between(x.i%10, 2, 4) && !between(x.i%100, 12, 14)
		return firstOf(api.Other, x.v > 0, api.One, x.i == 1, api.Few, few, api.Many, true)
	}},
	"cs": {"one: i = 1 and v = 0; few: i = 2..4 and v = 0; many: v != 0; other:", func(x shown) int {
		return firstOf(api.Many, x.v > 0, api.One, x.i == 1, api.Few, between(x.i, 2, 4))
	}},
	"ar": {"zero: n = 0; one: n = 1; two: n = 2; few: n % 100 = 3..10; many: n % 100 = 11..99; other:", func(x shown) int {
		return firstOf(api.Zero, x.is(0), api.One, x.is(1), api.Two, x.is(2), api.Few, between(x.rest(100), 3, 10), api.Many, between(x.rest(100), 11, 99))
	}},
	"lv": {"zero: n % 10 = 0 or n % 100 = 11..19 or v = 2 and f % 100 = 11..19; one: n % 10 = 1 and n % 100 != 11 or v = 2 and f % 10 = 1 and f % 100 != 11 or v != 2 and f % 10 = 1; other:", func(x shown) int {
		zero := x.rest(10) == 0 || between(x.rest(100), 11, 19) || x.v == 2 && between(x.f%100, 11, 19)
		one := x.rest(10) == 1 && x.rest(100) != 11 || x.v == 2 && x.f%10 == 1 && x.f%100 != 11 || x.v != 2 && x.f%10 == 1
		return firstOf(api.Zero, zero, api.One, one)
	}},
	"mo": {"one: i = 1 and v = 0; few: v != 0 or n = 0 or n != 1 and n % 100 = 1..19; other:", func(x shown) int {
		return firstOf(api.One, x.i == 1 && x.v == 0, api.Few, x.v > 0 || x.is(0) || !x.is(1) && between(x.rest(100), 1, 19))
	}},
	"lag": {"zero: n = 0; one: i = 0,1 and n != 0; other:", func(x shown) int {
		return firstOf(api.Zero, x.is(0), api.One, between(x.i, 0, 1) && !x.is(0))
	}},
	"old":                    {"one: n within 0..1; two: n is 2; few: n mod 10 in 3..4 and w is not 1", func(x shown) int { return oldForms(x) }},
	"rules without any list": {"other:", func(shown) int { return api.Other }},
	"no rules":               {"", func(shown) int { return api.Other }},
}

func oldForms(x shown) int {
	return firstOf(api.One, x.n.Cmp(big.NewRat(1, 1)) <= 0, api.Two, x.is(2), api.Few, between(x.rest(10), 3, 4) && x.w != 1)
}

// conditions is texts of relations, each of which holds for many numbers.
var conditions = []string{
	"n = 1", "n = 0", "n = 0..2", "n != 5", "n % 10 = 1", "n % 10 = 2..4", "n % 100 != 11..14", "n within 0..3", "n not within 2..20", "i = 1", "i = 0,2,21..40", "i != 1",
	"v = 0", "v != 0", "v = 1..2", "w = 1", "w != 2", "f = 0", "f % 10 = 1..2", "f != 5", "t = 0", "t != 0", "c = 0", "e = 6", "e != 0..5", "c = 1..3", "i % 1000000 = 0",
}

// samplesTexts is texts of samples.
var samplesTexts = []string{"", " @integer 1", " @integer 0~3, 5, 11~14, 100", " @integer 1~20, \u2026 @decimal 0.0~2.5", " @decimal 1.0, 1.00, 2.1c6", " @integer 1c6, 2c1, 1000000 @decimal 1.1c3, \u2026"}

// anyCondition is lists of relations.
func anyCondition(random *rand.Rand) string {
	var lists []string
	for range 1 + random.Intn(3) {
		var and []string
		for range 1 + random.Intn(3) {
			and = append(and, conditions[random.Intn(len(conditions))])
		}
		lists = append(lists, strings.Join(and, " and "))
	}
	return strings.Join(lists, " or ")
}

// anyRules is a category and a text for each rule of a valid set.
func anyRules(random *rand.Rand) (cats []int, texts []string) {
	for _, cat := range random.Perm(5)[:random.Intn(6)] {
		cats = append(cats, cat+1)
		texts = append(texts, anyCondition(random))
	}
	if random.Intn(2) == 0 {
		cats, texts = append(cats, api.Other), append(texts, "")
	}
	for i := range texts {
		texts[i] = strings.TrimPrefix(texts[i]+samplesTexts[random.Intn(len(samplesTexts))], " ")
	}
	return cats, texts
}

// anySet is a valid set, with its text as Print has it.
func anySet(random *rand.Rand) (api.Set, string) {
	cats, texts := anyRules(random)
	var set api.Set
	for i, cat := range cats {
		set.Rules = append(set.Rules, api.Named{Cat: cat, Rule: ruleOf(texts[i])})
		texts[i] = strings.TrimSuffix(words[cat]+": "+texts[i], " ")
	}
	return set, strings.Join(texts, "; ")
}

// anySpace is white space of some runes, often none.
func anySpace(random *rand.Rand) string {
	text := ""
	for range max(0, random.Intn(7)-3) {
		text += spaces[random.Intn(len(spaces))]
	}
	return text
}

// spaced is a set's text with any white space ahead of and behind its names and rules.
func spaced(random *rand.Rand, text string) string {
	for _, mark := range []string{":", ";"} {
		parts := strings.Split(text, mark)
		for i := range parts {
			parts[i] = anySpace(random) + strings.TrimPrefix(parts[i], " ") + anySpace(random)
		}
		text = strings.Join(parts, mark)
	}
	return text
}

// The pieces of a set's text: white space, a rule up to its end, each perhaps cut short.
var (
	spaceForm = regexp.MustCompile(`^[\t-\r \x{85}\x{200e}\x{200f}\x{2028}\x{2029}]*`)
	ruleForm  = regexp.MustCompile(`^(` + spaceForm.String()[1:] + `)([a-z]*)(` + spaceForm.String()[1:] + `)(:?)([^;]*)`)
)

// wantParse is what Parse answers, by the definition.
func wantParse(s string) (api.Set, int, api.Errno) {
	if len(s) > 65536 {
		return api.Set{}, 0, api.ErrLong
	}
	if spaceForm.FindString(s) == s {
		return api.Set{}, 0, api.OK
	}
	var set api.Set
	for at := 0; ; {
		m := ruleForm.FindStringSubmatch(s[at:])
		name, cat := at+len(m[1]), slices.Index(words, m[2])
		colon := name + len(m[2]) + len(m[3])
		has := func(cat int) bool {
			return slices.ContainsFunc(set.Rules, func(n api.Named) bool { return n.Cat == cat })
		}
		r, place, e := rule.Parse(m[5])
		switch {
		case m[2] == "":
			return api.Set{}, name, api.ErrSet
		case cat < 0:
			return api.Set{}, name, api.ErrCategory
		case has(cat):
			return api.Set{}, name, api.ErrTwice
		case has(api.Other):
			return api.Set{}, name, api.ErrSet
		case m[4] == "":
			return api.Set{}, colon, api.ErrSet
		case e != api.OK:
			return api.Set{}, colon + 1 + place, e
		case (cat == api.Other) != (len(r.Or) == 0):
			return api.Set{}, name, api.ErrSet
		}
		set.Rules = append(set.Rules, api.Named{Cat: cat, Rule: r})
		at = colon + 1 + len(m[5])
		if at == len(s) {
			return set, 0, api.OK
		}
		at++
	}
}

// wantCheck is the first violation of a set, by the definition.
func wantCheck(set api.Set) api.Errno {
	for i, named := range set.Rules {
		if named.Cat < 0 || named.Cat > 5 {
			return api.ErrSet
		}
		for _, earlier := range set.Rules[:i] {
			if earlier.Cat == named.Cat {
				return api.ErrTwice
			}
		}
		for _, earlier := range set.Rules[:i] {
			if earlier.Cat == api.Other {
				return api.ErrSet
			}
		}
		if e := rule.Check(named.Rule); e != api.OK {
			return e
		}
		if (len(named.Rule.Or) == 0) != (named.Cat == api.Other) {
			return api.ErrSet
		}
	}
	return api.OK
}

// wantHolds tells whether a valid rule holds for valid operands, by the definition.
func wantHolds(r api.Rule, o api.Ops) bool {
	held := len(r.Or) == 0
	for _, and := range r.Or {
		all := true
		for _, rel := range and {
			in, e := operand.In(o, rel)
			all = all && in && e == api.OK
		}
		held = held || all
	}
	return held
}

// wrongSets is sets that are not valid, by what is first wrong with them.
func wrongSets() map[api.Errno][]api.Set {
	one, two, other := setOf("one:n = 1").Rules[0], setOf("two:n = 2").Rules[0], setOf("other:").Rules[0]
	bad := api.Named{Cat: api.Few, Rule: ruleOf("n = 3")}
	bad.Rule.IntMore = true
	full := api.Named{Cat: api.Many, Rule: ruleOf("n = 1")}
	full.Rule.Or = slices.Repeat(full.Rule.Or, 65)
	wrong := map[api.Errno][]api.Set{}
	add := func(e api.Errno, rules ...api.Named) {
		wrong[e] = append(wrong[e], api.Set{Rules: rules})
	}
	as := func(named api.Named, cat int) api.Named {
		named.Cat = cat
		return named
	}
	for _, cat := range noCategories {
		add(api.ErrSet, as(one, cat))
		add(api.ErrSet, one, as(two, cat))
		add(api.ErrSet, one, other, as(two, cat))
		add(api.ErrSet, as(bad, cat))
		add(api.ErrSet, as(one, cat), bad)
		add(api.ErrSet, one, as(full, cat))
		add(api.ErrSet, as(two, cat), one, one)
		add(api.ErrTwice, one, one, as(two, cat))
		add(api.ErrRule, bad, as(two, cat))
	}
	add(api.ErrTwice, one, one)
	add(api.ErrTwice, one, two, one)
	add(api.ErrTwice, one, two, as(bad, api.One))
	add(api.ErrTwice, one, as(api.Named{}, api.One))
	add(api.ErrTwice, other, other)
	add(api.ErrTwice, one, other, one)
	add(api.ErrTwice, one, other, other)
	add(api.ErrTwice, one, other, as(one, api.Other))
	add(api.ErrTwice, one, one, bad)
	add(api.ErrSet, other, one)
	add(api.ErrSet, one, other, two)
	add(api.ErrSet, one, other, bad)
	add(api.ErrSet, other, full)
	add(api.ErrSet, as(one, api.Other))
	add(api.ErrSet, as(other, api.One))
	add(api.ErrSet, as(other, api.Many))
	add(api.ErrSet, one, as(other, api.Few), bad)
	add(api.ErrSet, one, two, as(one, api.Other))
	add(api.ErrSet, as(api.Named{Rule: ruleOf("@integer 1")}, api.Two))
	add(api.ErrRule, bad)
	add(api.ErrRule, one, bad, full)
	add(api.ErrRule, one, bad, one)
	add(api.ErrRule, as(bad, api.Other))
	add(api.ErrRule, api.Named{Cat: api.One, Rule: api.Rule{Or: [][]api.Rel{{}}}})
	add(api.ErrRule, api.Named{Cat: api.Other, Rule: api.Rule{DecMore: true}})
	add(api.ErrRule, api.Named{Cat: api.One, Rule: api.Rule{IntMore: true}})
	add(api.ErrFull, full)
	add(api.ErrFull, full, bad)
	add(api.ErrFull, one, as(full, api.Other))
	add(api.ErrFull, one, full, one)
	return wrong
}

// mustParse is the set that Parse returns for a text.
func mustParse(t *testing.T, text string) api.Set {
	t.Helper()
	set, at, e := choose.Parse(text)
	if at != 0 || e != api.OK {
		t.Fatalf("Parse(%.200q): error %d at %d", text, e, at)
	}
	return set
}

// TestSamples: the samples are what the tests take them for.
func TestSamples(t *testing.T) {
	random := rand.New(rand.NewSource(61))
	sizes := map[int]int{}
	for range 2000 {
		set, text := anySet(random)
		if e := wantCheck(set); e != api.OK {
			t.Fatalf("a sample that is not valid: %d, %s", e, clip(set))
		}
		for _, text := range []string{text, spaced(random, text)} {
			if got, at, e := wantParse(text); e != api.OK || at != 0 || !same(got, set) {
				t.Fatalf("the text of a sample is not taken for one: %q, %d at %d", text, e, at)
			}
		}
		sizes[len(set.Rules)]++
	}
	for size := range 7 {
		if sizes[size] < 100 {
			t.Errorf("only %d sets of %d rules", sizes[size], size)
		}
	}
	for want, sets := range wrongSets() {
		for _, set := range sets {
			if e := wantCheck(set); e != want || e == api.OK {
				t.Errorf("a wrong sample has error %d, not %d: %s", e, want, clip(set))
			}
		}
	}
	if n := len(numbers()); n < 700 {
		t.Errorf("only %d numbers", n)
	}
}
