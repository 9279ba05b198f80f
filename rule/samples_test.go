package rule_test

import (
	"fmt"
	"math/big"
	"math/rand"
	"reflect"
	"regexp"
	"slices"
	"strconv"
	"strings"
	"testing"

	"idiom/api"
	"idiom/rule"
)

// What the tests hold the program against is worked out here by package regexp and by package math/big, without the program.

// letters is all operands.
var letters = []string{"n", "i", "v", "w", "f", "t", "c", "e"}

// spaces is all white space.
var spaces = []string{"\t", "\n", "\v", "\f", "\r", " ", "\u0085", "\u200e", "\u200f", "\u2028", "\u2029"}

// The forms of numbers, and of the numbers of samples without a period and with one.
var (
	numberForm = regexp.MustCompile(`^(0|[1-9][0-9]{0,39})$`)
	intForm    = regexp.MustCompile(`^(0|[1-9][0-9]{0,39})(c([1-9]|1[0-9]|20))?$`)
	decForm    = regexp.MustCompile(`^(0|[1-9][0-9]*)\.[0-9]+(c([1-9]|1[0-9]|20))?$`)
)

func repeat(s string, n int) string {
	return strings.Repeat(s, n)
}

// clip is what a message of a test tells of a value that may be long.
func clip(value any) string {
	text := fmt.Sprintf("%+v", value)
	return text[:min(len(text), 300)]
}

// spansOf takes apart a list as in `1..3,5`.
func spansOf(text string) []api.Span {
	var list []api.Span
	for _, part := range strings.Split(text, ",") {
		lo, hi, two := strings.Cut(part, "..")
		if !two {
			hi = lo
		}
		list = append(list, api.Span{Lo: lo, Hi: hi})
	}
	return list
}

// samplesOf takes apart a list as in `1~3,5`.
func samplesOf(text string) []api.Sample {
	var list []api.Sample
	for _, part := range strings.Split(text, ",") {
		lo, hi, two := strings.Cut(part, "~")
		if !two {
			hi = lo
		}
		list = append(list, api.Sample{Lo: lo, Hi: hi})
	}
	return list
}

// oneOf is a rule of one relation.
func oneOf(rel api.Rel) api.Rule {
	return api.Rule{Or: [][]api.Rel{{rel}}}
}

// same tells whether two rules are the same one, a nil list being an empty one.
func same(a, b api.Rule) bool {
	return reflect.DeepEqual(normal(a), normal(b))
}

func normal(r api.Rule) api.Rule {
	r.Or = append([][]api.Rel{}, r.Or...)
	for i := range r.Or {
		r.Or[i] = append([]api.Rel{}, r.Or[i]...)
		for j := range r.Or[i] {
			r.Or[i][j].List = append([]api.Span{}, r.Or[i][j].List...)
		}
	}
	r.Ints, r.Decs = append([]api.Sample{}, r.Ints...), append([]api.Sample{}, r.Decs...)
	return r
}

// bigOf is the digits of a text as a number, without its period.
func bigOf(text string) *big.Int {
	n, ok := new(big.Int).SetString(strings.Replace(text, ".", "", 1), 10)
	if !ok {
		panic("no number: " + text)
	}
	return n
}

// placesOf is how many digits stand behind the period.
func placesOf(text string) int {
	_, frac, _ := strings.Cut(text, ".")
	return len(frac)
}

// isValue tells whether a text may be the number of a sample.
func isValue(text string, period bool) bool {
	if !period {
		return intForm.MatchString(text)
	}
	digits, _, _ := strings.Cut(text, "c")
	return decForm.MatchString(text) && len(digits) <= 41
}

func isSample(s api.Sample, period bool) bool {
	if !isValue(s.Lo, period) || !isValue(s.Hi, period) {
		return false
	}
	if s.Lo == s.Hi {
		return true
	}
	return !strings.Contains(s.Lo+s.Hi, "c") && placesOf(s.Lo) == placesOf(s.Hi) && bigOf(s.Lo).Cmp(bigOf(s.Hi)) < 0
}

// wantCheck is the first violation of a rule, by the definition.
func wantCheck(r api.Rule) api.Errno {
	count := 0
	for _, and := range r.Or {
		if len(and) == 0 {
			return api.ErrRule
		}
		for _, rel := range and {
			if count++; count > 64 {
				return api.ErrFull
			}
			if e := wantRelation(rel); e != api.OK {
				return e
			}
		}
	}
	for _, x := range []struct {
		list   []api.Sample
		period bool
	}{{r.Ints, false}, {r.Decs, true}} {
		for i, s := range x.list {
			if i >= 64 {
				return api.ErrFull
			}
			if !isSample(s, x.period) {
				return api.ErrRule
			}
		}
	}
	if r.IntMore && len(r.Ints) == 0 || r.DecMore && len(r.Decs) == 0 {
		return api.ErrRule
	}
	return api.OK
}

func wantRelation(rel api.Rel) api.Errno {
	if !slices.Contains(letters, rel.Op) || rel.Mod != "" && !numberForm.MatchString(rel.Mod) || rel.Mod == "0" || len(rel.List) == 0 {
		return api.ErrRule
	}
	for i, s := range rel.List {
		if i >= 64 {
			return api.ErrFull
		}
		if !numberForm.MatchString(s.Lo) || !numberForm.MatchString(s.Hi) || bigOf(s.Lo).Cmp(bigOf(s.Hi)) > 0 {
			return api.ErrRule
		}
	}
	return api.OK
}

// pieces is the texts of a rule between which white space may stand, in the canonical spelling (random nil) or in any.
func pieces(random *rand.Rand, r api.Rule) []string {
	pick := func(first string, others ...string) []string {
		if random != nil {
			first = append(others, first)[random.Intn(len(others)+1)]
		}
		return strings.Fields(first)
	}
	var all []string
	for i, and := range r.Or {
		if i > 0 {
			all = append(all, "or")
		}
		for j, rel := range and {
			if j > 0 {
				all = append(all, "and")
			}
			all = append(all, rel.Op)
			if rel.Mod != "" {
				all = append(append(all, pick("%", "mod")...), rel.Mod)
			}
			isSingle := len(rel.List) == 1 && rel.List[0].Lo == rel.List[0].Hi
			switch {
			case rel.Within && rel.Not:
				all = append(all, "not", "within")
			case rel.Within:
				all = append(all, "within")
			case rel.Not && isSingle:
				all = append(all, pick("!=", "not in", "is not")...)
			case rel.Not:
				all = append(all, pick("!=", "not in")...)
			case isSingle:
				all = append(all, pick("=", "in", "is")...)
			default:
				all = append(all, pick("=", "in")...)
			}
			canBeTwo := all[len(all)-1] != "is" && !(all[len(all)-1] == "not" && isSingle)
			for k, s := range rel.List {
				if k > 0 {
					all = append(all, ",")
				}
				all = append(all, s.Lo)
				if s.Lo != s.Hi || random != nil && canBeTwo && random.Intn(4) == 0 {
					all = append(all, "..", s.Hi)
				}
			}
		}
	}
	all = append(all, samplePieces(pick, "@integer", r.Ints, r.IntMore)...)
	return append(all, samplePieces(pick, "@decimal", r.Decs, r.DecMore)...)
}

func samplePieces(pick func(string, ...string) []string, word string, list []api.Sample, more bool) []string {
	if len(list) == 0 {
		return nil
	}
	all := []string{word}
	value := func(s string) {
		all = append(all, pick(s, strings.Replace(s, "c", "e", 1))...)
	}
	for i, s := range list {
		if i > 0 {
			all = append(all, ",")
		}
		value(s.Lo)
		if s.Lo != s.Hi {
			all = append(all, "~")
			value(s.Hi)
		}
	}
	if more {
		all = append(append(all, ","), pick("\u2026", "...")...)
	}
	return all
}

// wantText is the canonical text of a valid rule.
func wantText(r api.Rule) string {
	text := " " + strings.Join(pieces(nil, r), " ")
	for _, tight := range [][2]string{{" .. ", ".."}, {" ~ ", "~"}, {" , ", ", "}} {
		text = strings.ReplaceAll(text, tight[0], tight[1])
	}
	conditions, rest, found := strings.Cut(text, " @")
	text = strings.ReplaceAll(conditions, ", ", ",")
	if found {
		text += " @" + rest
	}
	return strings.TrimPrefix(text, " ")
}

func isWord(b byte) bool {
	return 'a' <= b && b <= 'z'
}

// anySpace is white space of some runes, often none.
func anySpace(random *rand.Rand, least int) string {
	text := ""
	for range max(least, random.Intn(7)-3) {
		text += spaces[random.Intn(len(spaces))]
	}
	return text
}

// anyText is a text of a rule in any spelling, with any white space.
func anyText(random *rand.Rand, r api.Rule) string {
	text := anySpace(random, 0)
	for _, piece := range pieces(random, r) {
		least := 0
		if text != "" && isWord(text[len(text)-1]) && isWord(piece[0]) {
			least = 1
		}
		text += anySpace(random, least) + piece
	}
	return text + anySpace(random, 0)
}

// anyNumber is a number, mostly a short one.
func anyNumber(random *rand.Rand) string {
	if random.Intn(5) > 0 {
		return strconv.Itoa(random.Intn([]int{2, 12, 120, 1 << 40}[random.Intn(4)]))
	}
	digits := make([]byte, 1+random.Intn(40))
	for i := range digits {
		digits[i] = byte('0' + random.Intn(10))
	}
	digits[0] = byte('1' + random.Intn(9))
	return string(digits)
}

// ordered returns two numbers, the first of which is not the greater one.
func ordered(a, b string) (string, string) {
	if bigOf(a).Cmp(bigOf(b)) > 0 {
		return b, a
	}
	return a, b
}

func anyRelation(random *rand.Rand) api.Rel {
	rel := api.Rel{Op: letters[random.Intn(len(letters))], Not: random.Intn(2) == 0, Within: random.Intn(3) == 0}
	if random.Intn(2) == 0 {
		rel.Mod = anyNumber(random)
		if rel.Mod == "0" {
			rel.Mod = "10"
		}
	}
	for range 1 + random.Intn(3) {
		lo, hi := ordered(anyNumber(random), anyNumber(random))
		if random.Intn(2) == 0 {
			hi = lo
		}
		rel.List = append(rel.List, api.Span{Lo: lo, Hi: hi})
	}
	return rel
}

func anySample(random *rand.Rand, period bool) api.Sample {
	a, b := ordered(anyNumber(random), anyNumber(random))
	if period {
		places := 1 + random.Intn(40-min(39, len(b)))
		a, b = a[:min(len(a), 40-places)], b[:min(len(b), 40-places)]
		for _, n := range []*string{&a, &b} {
			frac := repeat("0", places) + anyNumber(random)
			*n += "." + frac[len(frac)-places:]
		}
		a, b = ordered(a, b)
	}
	if a == b || random.Intn(2) == 0 {
		if random.Intn(3) == 0 {
			a += "c" + strconv.Itoa(1+random.Intn(20))
		}
		b = a
	}
	return api.Sample{Lo: a, Hi: b}
}

// anyRule is a valid rule.
func anyRule(random *rand.Rand) api.Rule {
	var r api.Rule
	for range random.Intn(4) {
		var and []api.Rel
		for range 1 + random.Intn(3) {
			and = append(and, anyRelation(random))
		}
		r.Or = append(r.Or, and)
	}
	for range random.Intn(4) {
		r.Ints = append(r.Ints, anySample(random, false))
	}
	for range random.Intn(4) {
		r.Decs = append(r.Decs, anySample(random, true))
	}
	r.IntMore = len(r.Ints) > 0 && random.Intn(2) == 0
	r.DecMore = len(r.Decs) > 0 && random.Intn(2) == 0
	return r
}

// standard is rules of the data of CLDR, as they are written there.
var standard = []string{
	"",
	"i = 1 and v = 0 @integer 1",
	"n = 0..1 @integer 0, 1 @decimal 0.0, 1.0, 0.00, 1.00, 0.000, 1.000, 0.0000, 1.0000",
	"i = 0 or n = 1 @integer 0, 1 @decimal 0.0~1.0, 0.00~0.04",
	"n = 1 or t != 0 and i = 0,1 @integer 1 @decimal 0.1~1.6",
	"v = 0 and i % 10 = 2..4 and i % 100 != 12..14 or f % 10 = 2..4 and f % 100 != 12..14 @integer 2~4, 22~24, 32~34, 42~44, 52~54, 62, 102, 1002, \u2026 @decimal 0.2~0.4, 1.2~1.4, 2.2~2.4, 3.2~3.4, 4.2~4.4, 5.2, 10.2, 100.2, 1000.2, \u2026",
	"n % 10 = 0 or n % 100 = 11..19 or v = 2 and f % 100 = 11..19 @integer 0, 10~20, 30, 40, 50, 60, 100, 1000, 10000, 100000, 1000000, \u2026 @decimal 0.0, 10.0, 11.0, 12.0, 13.0, 14.0, 15.0, 16.0, 100.0, 1000.0, 10000.0, 100000.0, 1000000.0, \u2026",
	"e = 0 and i != 0 and i % 1000000 = 0 and v = 0 or e != 0..5 @integer 1000000, 1c6, 2c6, 3c6, 4c6, 5c6, 6c6, \u2026 @decimal 1.0000001c6, 1.1c6, 2.0000001c6, 2.1c6, 3.0000001c6, 3.1c6, \u2026",
	"n % 100 = 2,22,42,62,82 or n % 1000 = 0 and n % 100000 = 1000..20000,40000,60000,80000 or n != 0 and n % 1000000 = 100000 @integer 2, 22, 42, 62, 82, 102, 122, 142, 1000, 10000, 100000, \u2026 @decimal 2.0, 22.0, 42.0, 62.0, 82.0, 102.0, 122.0, 142.0, 1000.0, 10000.0, 100000.0, \u2026",
	"@integer 0, 2~16, 100, 1000, 10000, 100000, 1000000, \u2026 @decimal 0.0~1.5, 10.0, 100.0, 1000.0, 10000.0, 100000.0, 1000000.0, \u2026",
	"@decimal 0.0~1.5, 10.0, \u2026",
}

// mustParse is the rule that Parse returns for a text.
func mustParse(t *testing.T, text string) api.Rule {
	t.Helper()
	r, at, e := rule.Parse(text)
	if at != 0 || e != api.OK {
		t.Fatalf("Parse(%q): error %d at %d", text, e, at)
	}
	return r
}

// TestSamples: the samples are what the tests take them for.
func TestSamples(t *testing.T) {
	random := rand.New(rand.NewSource(51))
	ranges, exponents, long := 0, 0, 0
	for range 3000 {
		r := anyRule(random)
		if e := wantCheck(r); e != api.OK {
			t.Fatalf("a sample that is not valid: %d, %s", e, clip(r))
		}
		for _, s := range append(slices.Clone(r.Ints), r.Decs...) {
			if s.Lo != s.Hi {
				ranges++
			}
			if strings.Contains(s.Lo, "c") {
				exponents++
			}
			if len(s.Lo) > 30 {
				long++
			}
		}
	}
	if ranges < 500 || exponents < 500 || long < 100 {
		t.Errorf("only %d ranges, %d exponents, %d long numbers", ranges, exponents, long)
	}
}
