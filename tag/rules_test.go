package tag_test

import (
	"math/rand"
	"slices"
	"strings"
	"testing"
	"unsafe"

	"idiom/api"
	"idiom/tag"
)

// scraps is texts of which others are put together.
var scraps = []string{"en", "de", "und", "root", "Root", "-", "-", "-", "-", "_", "-", "Latn", "latn", "US", "us", "419", "1996", "-1996", "-rozaj", "-ROZAJ", "-biske", "-0abc", "-u", "-u-", "-U-", "-nu", "-NU", "-ca", "-11", "-true", "-gregory", "x", "-x-", "abc", "a", "1", "\xff", "\u00e9", "\u212a", "\u017f", "\x00", " ", "--"}

func anyScraps(random *rand.Rand) string {
	text := one(random, []string{"", "en", "de-CH", "und-u", "fr-1996-u-nu", "sr_Latn_RS", "x"})
	for range random.Intn(9) {
		text += one(random, scraps)
	}
	return text
}

// TestAnyText: whatever is handed in, Parse ends, and answers what the definition says (R1, R2), and the same when it is asked again (R4).
func TestAnyText(t *testing.T) {
	random := rand.New(rand.NewSource(83))
	counts := map[api.Errno]int{}
	for range 40000 {
		text := anyScraps(random)
		if random.Intn(2) == 0 { // a tag's text of which one byte is another one
			bytes := []byte(spelled(random, anyTag(random)) + "-")
			bytes[random.Intn(len(bytes))] = []byte("--_aZ09uU\xff\x80\x00 ")[random.Intn(13)]
			text = string(bytes[:len(bytes)-random.Intn(2)])
		}
		if random.Intn(4) == 0 {
			text += text[random.Intn(len(text)+1):]
		}
		want, at, e := wantParse(text)
		counts[e]++
		for range 2 {
			if got, place, e2 := tag.Parse(text); !same(got, want) || place != at || e2 != e {
				t.Fatalf("Parse(%q): %s, %d at %d, want %s, %d at %d", text, clip(got), e2, place, clip(want), e, at)
			}
		}
	}
	for _, e := range []api.Errno{api.OK, api.ErrTag, api.ErrTwice} {
		if counts[e] < 500 {
			t.Errorf("only %d texts with error %d", counts[e], e)
		}
	}
}

// TestAnythingAgain: the same answer to the same question, whatever is handed in (R1, R4).
func TestAnythingAgain(t *testing.T) {
	random := rand.New(rand.NewSource(84))
	tags := []api.Tag{{}, bigTag(), {Lang: repeat("e", 1<<17)}, {Variants: make([]string, 1<<16)}, {Keys: make([]api.Key, 1<<16)}, {Keys: []api.Key{{Name: "nu", Value: repeat("-", 1<<17)}}}, longTag(1 << 17)}
	for _, wrong := range wrongTags() {
		tags = append(tags, wrong[:10]...)
	}
	lists := [][]api.Pair{nil, {{}}, {{Child: repeat("-", 1<<17), Parent: repeat("e", 1<<17)}}, manyPairs(256), pairs("en de", "de en")}
	for _, wrong := range wrongPairs() {
		lists = append(lists, wrong[:4]...)
	}
	for range 30 {
		tags, lists = append(tags, anyTag(random)), append(lists, anyPairs(random))
	}
	for i, x := range tags {
		y := tags[random.Intn(len(tags))]
		for _, all := range lists {
			answers := func() []any {
				text, e := tag.Print(x)
				chain, e2 := tag.Chain(x, all)
				place, e3 := tag.Lookup([]api.Tag{y, x}, []api.Tag{x, y, {}}, all)
				within, e4 := tag.Within(x, y)
				return []any{text, e, chain, e2, place, e3, within, e4, tag.Check(x)}
			}
			if a, b := answers(), answers(); !slices.EqualFunc(a, b, func(a, b any) bool { return clip(a) == clip(b) }) {
				t.Errorf("%s: %s, again %s", clip(x), clip(a), clip(b))
			}
			if i >= 7 && random.Intn(3) > 0 {
				break
			}
		}
	}
}

// stringsOf is all strings of a tag.
func stringsOf(x api.Tag) []string {
	all := append([]string{x.Lang, x.Script, x.Region}, x.Variants...)
	for _, key := range x.Keys {
		all = append(all, key.Name, key.Value)
	}
	return all
}

// shares tells whether one of the texts lies in the memory of another one.
func shares(memory string, texts []string) bool {
	begin := uintptr(unsafe.Pointer(unsafe.StringData(memory)))
	return slices.ContainsFunc(texts, func(s string) bool {
		at := uintptr(unsafe.Pointer(unsafe.StringData(s)))
		return s != "" && begin <= at && at < begin+uintptr(len(memory))
	})
}

// TestResultsAreNewMemory: R3, no result shares memory with an argument.
func TestResultsAreNewMemory(t *testing.T) {
	for _, text := range []string{"en", "und-Latn", "und-US", "und-1996", "en-Latn-US-1996-rozaj-u-ca-gregory-nu-latn-abc", "und-u-nu"} {
		text = strings.Clone(text)
		x := mustParse(t, text)
		if shares(text, stringsOf(x)) {
			t.Errorf("the result of Parse shares memory with %q", text)
		}
		printed, e := tag.Print(x)
		if e != api.OK {
			t.Fatalf("Print: %d", e)
		}
		pair := api.Pair{Child: strings.Clone("en-Latn"), Parent: strings.Clone("fr-Latn-CH-1996-rozaj")}
		chain, e := tag.Chain(x, []api.Pair{pair})
		if e != api.OK {
			t.Fatalf("Chain: %d", e)
		}
		results := []string{printed}
		for _, y := range chain {
			results = append(results, stringsOf(y)...)
		}
		for _, memory := range append(stringsOf(x), pair.Child, pair.Parent) {
			if shares(memory, results) {
				t.Errorf("a result shares memory with %q of %q", memory, text)
			}
		}
	}
}

// TestListsAreApart: R3, no two lists of one result share memory, with each other or with the argument.
func TestListsAreApart(t *testing.T) {
	const text = "en-Latn-US-0abc-1996-biske-rozaj-u-ca-nu-latn"
	x := mustParse(t, text)
	_ = append(x.Variants, "xxxxx", "xxxxx", "xxxxx")
	_ = append(x.Keys, api.Key{Name: "xx"}, api.Key{Name: "xx"})
	parsed(t, text, x)
	all := pairs("en fr-1901-1996-rozaj")
	want, _ := wantChain(text, all)
	for i := range want {
		chain, e := tag.Chain(x, all)
		if e != api.OK {
			t.Fatalf("Chain: %d", e)
		}
		for j := range chain[i].Variants {
			chain[i].Variants[j] = "xxxxx"
		}
		_ = append(chain[i].Variants, "xxxxx", "xxxxx", "xxxxx")
		for j := range chain[i].Keys {
			chain[i].Keys[j].Name = "xx"
		}
		chain[i] = tagOf(want[i])
		if textsOf(chain) != strings.Join(want, " ") || wantText(x) != text {
			t.Errorf("a list of tag %d lies in another one: %s", i, clip(chain))
		}
	}
}

// TestArgumentsStay: R3, what is handed in is not changed.
func TestArgumentsStay(t *testing.T) {
	random := rand.New(rand.NewSource(85))
	for range 500 {
		x, y, all := anyTag(random), anyTag(random), anyPairs(random)
		x.Variants, x.Keys = slices.Grow(x.Variants, 5), slices.Grow(x.Keys, 5)
		want, have := []api.Tag{x, y}, []api.Tag{y, x}
		told := func() string {
			return strings.Join([]string{wantText(x), wantText(y), textsOf(want), textsOf(have), clip(all)}, "; ")
		}
		before := told()
		tag.Check(x)
		tag.Print(x)
		tag.Chain(x, all)
		tag.Lookup(want, have, all)
		tag.Within(x, y)
		if after := told(); before != after {
			t.Fatalf("%s was changed into %s", before, after)
		}
		for _, variant := range x.Variants[len(x.Variants):cap(x.Variants)] {
			if variant != "" {
				t.Fatalf("%q was written behind the variants of %s", variant, clip(x))
			}
		}
		for _, key := range x.Keys[len(x.Keys):cap(x.Keys)] {
			if key != (api.Key{}) {
				t.Fatalf("%v was written behind the keys of %s", key, clip(x))
			}
		}
	}
}

// TestNilAndEmpty: R3, nil and empty lists are equivalent.
func TestNilAndEmpty(t *testing.T) {
	x := api.Tag{Lang: "en", Region: "US", Variants: []string{}, Keys: []api.Key{}}
	printed(t, x, "en-US")
	chained(t, x, []api.Pair{}, "en-US en und")
	chained(t, api.Tag{Variants: []string{}, Keys: []api.Key{}}, nil, "und")
	chained(t, x, pairs("en-US fr"), "en-US fr und")
	looked(t, []api.Tag{x}, tagsOf("en en-US"), []api.Pair{}, 1)
	looked(t, tagsOf("en-US"), []api.Tag{{Lang: "en"}, x}, nil, 1)
	unlooked(t, []api.Tag{}, []api.Tag{}, []api.Pair{}, api.ErrNone)
	within(t, x, tagOf("en-US"), true)
	within(t, tagOf("en-US"), x, true)
}
