package tag_test

import (
	"math/rand"
	"slices"
	"strings"
	"testing"
	"time"

	"idiom/api"
	"idiom/tag"
)

// looked asks for a place.
func looked(t *testing.T, want, have []api.Tag, pairs []api.Pair, place int) {
	t.Helper()
	if got, e := tag.Lookup(want, have, pairs); got != place || e != api.OK {
		t.Errorf("Lookup(%s, %s, %s): %d %d, want %d", clip(textsOf(want)), clip(textsOf(have)), clip(pairs), got, e, place)
	}
}

// unlooked asks for an error.
func unlooked(t *testing.T, want, have []api.Tag, pairs []api.Pair, wanted api.Errno) {
	t.Helper()
	if got, e := tag.Lookup(want, have, pairs); got != 0 || e != wanted {
		t.Errorf("Lookup(%s, %s, %s): %d %d, want error %d", clip(want), clip(have), clip(pairs), got, e, wanted)
	}
}

// TestLookup: Tg4, written out.
func TestLookup(t *testing.T) {
	for _, x := range []struct {
		want, have string
		pairs      []api.Pair
		place      int
	}{
		{"en", "en", nil, 0},
		{"en", "de en fr", nil, 1},
		{"en", "de en en", nil, 1},
		{"en-US", "de en en-GB", nil, 1},
		{"en-US", "de en en-US", nil, 2},
		{"en-US", "en en-US en-US", nil, 1},
		{"fr de", "de fr", nil, 1},
		{"fr de", "de en", nil, 0},
		{"de-CH-1996 fr", "fr de-CH de", nil, 1},
		{"de-CH-1996 fr", "fr de", nil, 1},
		{"de-CH-1996 fr", "fr und", nil, 0},
		{"it de-CH-1996 fr", "und fr de und", nil, 2},
		{"de-u-nu", "de de-u-nu", nil, 1},
		{"de-u-nu", "de-u-nu-latn de-u-co de", nil, 2},
		{"de-u-nu-latn", "de-u-nu de-u-nu-latn", nil, 1},
		{"de", "de-CH und", nil, 1},
		{"de", "en und und", nil, 1},
		{"und", "de und", nil, 1},
		{"und de", "und de", nil, 1},
		{"und-US", "und und-US", nil, 1},
		{"und-US", "en-US und", nil, 1},
		{"", "de und en und", nil, 1},
		{"", "und", nil, 0},
		{"es-MX", "es es-419", pairs("es-MX es-419"), 1},
		{"es-MX", "es es-419", nil, 0},
		{"es-MX fr", "fr es", pairs("es-MX und"), 0},
		{"es-MX", "und es", pairs("es-MX und"), 0},
		{"fr", "de en", pairs("fr en"), 1},
		{"fr-CH", "de en", pairs("fr en", "fr-CH de"), 0},
		{"gsw-CH", "fr de-CH de", pairs("gsw de-CH"), 1},
		{"gsw en", "en de", pairs("gsw de"), 1},
		{"fr fr-CH gsw", "und-US gsw und", pairs("fr und-US"), 0},
		{"en-Latn-US-1996", "en-Latn-US en-Latn-US-1996-rozaj en-Latn en", nil, 0},
		{"en-Latn-US-1996", "en-US en", nil, 1},
		{"zh-Hant", "zh und", pairs("zh-Hant und"), 1},
	} {
		looked(t, tagsOf(x.want), tagsOf(x.have), x.pairs, x.place)
	}
}

// TestLookupExamples: the examples of Tg4.
func TestLookupExamples(t *testing.T) {
	looked(t, tagsOf("fr de-CH"), tagsOf("und de en"), nil, 1)
	unlooked(t, tagsOf("fr"), tagsOf("de en"), nil, api.ErrNone)
}

// TestLookupNone: Tg4, ErrNone.
func TestLookupNone(t *testing.T) {
	for want, have := range map[string]string{"": "", "en": "", "und": "", "de-CH": "de-AT gsw", "en ": "en-US und-US", "und ": "de en", " ": "de", "und-US": "en-US", "de": "de-u-nu", "de-u-nu": "de-u-co"} {
		unlooked(t, tagsOf(want), tagsOf(have), pairs("fr it"), api.ErrNone)
	}
}

// anyTags is valid tags, most of them of few languages.
func anyTags(random *rand.Rand) []api.Tag {
	var tags []api.Tag
	for range random.Intn(6) {
		x := anyTag(random)
		switch random.Intn(3) {
		case 0:
			x = tagOf(one(random, []string{"de", "en", "fr", "de-CH", "en-US", "und", "und-US", "zh-Hant", "es", "gsw", "sr", "zz"}))
		case 1:
			x.Keys = nil
		}
		tags = append(tags, x)
	}
	return tags
}

// TestLookupOfAnyTags: Tg4, any tags and pairs.
func TestLookupOfAnyTags(t *testing.T) {
	random := rand.New(rand.NewSource(76))
	counts, places := map[api.Errno]int{}, map[int]int{}
	for range 20000 {
		want, have, all := anyTags(random), anyTags(random), anyPairs(random)
		for _, x := range want {
			if p := (api.Pair{Child: strings.Split(wantText(x), "-u-")[0], Parent: wantText(keyless(random))}); random.Intn(4) == 0 && wantPairs(append(all, p)) == api.OK {
				all = append(all, p)
			}
		}
		place, e := wantLookup(want, have, all)
		counts[e]++
		if e != api.OK {
			unlooked(t, want, have, all, e)
			continue
		}
		places[place]++
		looked(t, want, have, all, place)
	}
	for _, e := range []api.Errno{api.OK, api.ErrTwice, api.ErrNone} {
		if counts[e] < 200 {
			t.Errorf("only %d times the error %d", counts[e], e)
		}
	}
	for place := range 5 {
		if places[place] < 200 {
			t.Errorf("only %d times the place %d", places[place], place)
		}
	}
}

// TestLookupErrors: Tg4, the errors in their order: ErrFull, those of Check, first for the wanted tags, those of Chain, first for the pairs; ErrNone.
func TestLookupErrors(t *testing.T) {
	good, many := tagsOf("en de"), slices.Repeat(tagsOf("en"), 257)
	circle, bad := pairs("en de", "de en"), pairs("en de", "und en")
	for want, tags := range wrongTags() {
		for _, x := range tags {
			list := []api.Tag{good[0], x}
			other := api.Tag{Variants: []string{"1996", "1996"}}
			if want == api.ErrTwice {
				other = api.Tag{Lang: "e"}
			}
			unlooked(t, list, good, nil, want)
			unlooked(t, good, list, nil, want)
			unlooked(t, list, []api.Tag{other}, manyPairs(257), want)
			unlooked(t, good, list, circle, want)
			unlooked(t, nil, []api.Tag{good[1], x, other}, bad, want)
			unlooked(t, []api.Tag{x, other}, nil, bad, want)
			unlooked(t, slices.Repeat(list, 129), good, nil, api.ErrFull)
			unlooked(t, list, many, nil, api.ErrFull)
			unlooked(t, many, list, bad, api.ErrFull)
		}
	}
	for want, lists := range wrongPairs() {
		for _, all := range lists {
			unlooked(t, good, good, all, want)
			unlooked(t, nil, nil, all, want)
			unlooked(t, tagsOf("qaa"), nil, all, want)
		}
	}
	unlooked(t, many, good, nil, api.ErrFull)
	unlooked(t, good, many, nil, api.ErrFull)
	unlooked(t, many, many, bad, api.ErrFull)
	unlooked(t, nil, make([]api.Tag, 257), nil, api.ErrFull)
	unlooked(t, make([]api.Tag, 100000), nil, nil, api.ErrFull)
}

// TestLookupCircles: Tg4, the error of Chain for the pairs, also behind a tag that is selected; none for a circle that no wanted tag leads to.
func TestLookupCircles(t *testing.T) {
	circle := pairs("en de", "de en")
	for _, x := range []struct{ want, have string }{{"en", "en de"}, {"en", ""}, {"de-CH", "de-CH und"}, {"fr en", "fr"}, {"fr fr-CH es-MX de-u-nu", "und fr"}, {"und en", "und"}, {"fr fr en", "fr"}} {
		unlooked(t, tagsOf(x.want), tagsOf(x.have), circle, api.ErrTwice)
	}
	looked(t, tagsOf("fr"), tagsOf("en fr de"), circle, 1)
	looked(t, nil, tagsOf("en und"), circle, 1)
	looked(t, tagsOf("und fr-CH-u-nu"), tagsOf("en de und fr"), circle, 3)
	unlooked(t, tagsOf("fr"), tagsOf("en de"), circle, api.ErrNone)
	looked(t, tagsOf("fr fr-CH fr fr-CH-u-nu fr"), tagsOf("und en fr"), circle, 2)
	looked(t, tagsOf("fr fr-CH gsw gsw de-AT"), tagsOf("und en"), pairs("gsw de", "fr de", "de en"), 1)
	looked(t, tagsOf("fr fr-CH gsw gsw it-1996"), tagsOf("und it it-1996"), pairs("gsw de", "fr de", "de en"), 2)
}

// TestLookupOfManyTags: Tg4, up to MaxRows tags and pairs, within a short time.
func TestLookupOfManyTags(t *testing.T) {
	var want, have []api.Tag
	var long []api.Pair
	for _, p := range manyPairs(256) {
		x := api.Tag{Lang: p.Parent, Script: "Latn", Region: "419", Variants: manyVariants(64)}
		long = append(long, api.Pair{Child: p.Child, Parent: wantText(x)})
		want = append(want, api.Tag{Lang: p.Child, Keys: manyKeys(64, "latn")})
		have = append(have, api.Tag{Lang: "en", Script: "Latn", Region: "419", Variants: manyVariants(64)})
	}
	begin := time.Now()
	unlooked(t, want, have, long, api.ErrNone)
	have[255] = tagOf("qjw")
	looked(t, want, have, long, 255)
	slices.Reverse(want)
	looked(t, want, have, long, 255)
	have[200].Lang = "qjw"
	looked(t, want, have, long, 200)
	have[3] = api.Tag{}
	looked(t, want, have, long, 200)
	looked(t, tagsOf("en-u-nu"), have, long, 3)
	looked(t, slices.Repeat(tagsOf("en-Latn-419"), 256), have, long, 3)
	if spent := time.Since(begin); spent > 10*time.Second {
		t.Errorf("it takes %v", spent)
	}
}

// TestLookupOfLongTags: Tg4, tags may have texts of any length.
func TestLookupOfLongTags(t *testing.T) {
	a, b, c := longTag(70000), longTag(70001), longTag(100000)
	looked(t, []api.Tag{c, a}, []api.Tag{b, {}, a}, nil, 2)
	looked(t, []api.Tag{c, a, b}, []api.Tag{b, {}}, nil, 0)
	looked(t, []api.Tag{c, a, b}, []api.Tag{b, {}, {Lang: "de"}}, nil, 2)
	unlooked(t, []api.Tag{a}, []api.Tag{b}, nil, api.ErrNone)
}
