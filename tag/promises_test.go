package tag_test

import (
	"math/rand"
	"strings"
	"testing"

	"idiom/api"
	"idiom/tag"
)

// allTags is many valid tags.
func allTags(random *rand.Rand) []api.Tag {
	all := []api.Tag{{}, bigTag(), longTag(65536), {Variants: manyVariants(64)}, {Keys: manyKeys(64, "")}}
	for range 3000 {
		all = append(all, anyTag(random))
	}
	return all
}

// TestParseInvertsPrint: Tg6, Parse inverts Print for valid tags.
func TestParseInvertsPrint(t *testing.T) {
	random := rand.New(rand.NewSource(78))
	for _, x := range allTags(random) {
		text, e := tag.Print(x)
		if e != api.OK {
			t.Fatalf("Print(%s): %d", clip(x), e)
		}
		parsed(t, text, x)
		if again, e := tag.Print(mustParse(t, text)); again != text || e != api.OK {
			t.Errorf("%.200q becomes %.200q, %d", text, again, e)
		}
	}
}

// TestCaseAndSeparators: Tg6, the case of letters and the choice of separators do not matter, for the error and its place neither.
func TestCaseAndSeparators(t *testing.T) {
	random := rand.New(rand.NewSource(79))
	counts := map[api.Errno]int{}
	for range 5000 {
		text := wantText(anyTag(random))
		if random.Intn(2) == 0 {
			text = anyScraps(random)
		}
		want, at, e := tag.Parse(text)
		counts[e]++
		for _, other := range []string{asSmall(text), strings.ToUpper(text), strings.ReplaceAll(text, "-", "_"), strings.ReplaceAll(text, "_", "-"), strings.ReplaceAll(strings.ToUpper(text), "-", "_")} {
			if len(other) != len(text) { // a letter that is none of A to Z
				continue
			}
			if got, place, e2 := tag.Parse(other); !same(got, want) || place != at || e2 != e {
				t.Errorf("Parse(%q): %s, %d at %d; of %q %s, %d at %d", text, clip(want), e, at, other, clip(got), e2, place)
			}
		}
	}
	if counts[api.OK] < 1000 || counts[api.ErrTag] < 1000 {
		t.Errorf("too few: %v", counts)
	}
}

// TestChainWithinNext: Tg6, without pairs every tag of a chain lies within the next one, and the last one is the root.
func TestChainWithinNext(t *testing.T) {
	random := rand.New(rand.NewSource(80))
	for _, x := range allTags(random) {
		chain, e := tag.Chain(x, nil)
		if e != api.OK || len(chain) == 0 || !same(chain[0], x) || !same(chain[len(chain)-1], api.Tag{}) {
			t.Fatalf("Chain(%s): %s %d", clip(x), clip(chain), e)
		}
		for i, next := range chain[1:] {
			within(t, chain[i], next, true)
			within(t, x, next, true)
			within(t, next, chain[i], false)
			if e := tag.Check(next); e != api.OK {
				t.Errorf("%s is in a chain: %d", clip(next), e)
			}
		}
	}
}

// TestWithinItself: Tg6, every tag lies within itself and within the root.
func TestWithinItself(t *testing.T) {
	random := rand.New(rand.NewSource(81))
	for _, x := range allTags(random) {
		within(t, x, x, true)
		within(t, x, api.Tag{}, true)
		within(t, api.Tag{}, x, same(x, api.Tag{}))
	}
}

// TestLookupOfChain: Tg4, every tag of a chain but the root finds itself, and each of them is found ahead of those behind it.
func TestLookupOfChain(t *testing.T) {
	random := rand.New(rand.NewSource(82))
	for range 2000 {
		x, all := anyTag(random), anyPairs(random)
		chain, e := tag.Chain(x, all)
		if e != api.OK {
			continue
		}
		want := []api.Tag{x}
		for i := range chain {
			looked(t, want, chain[i:], all, 0)
			looked(t, chain[i:i+1], chain, all, i)
		}
	}
}
