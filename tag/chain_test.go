package tag_test

import (
	"math/rand"
	"slices"
	"strings"
	"testing"

	"idiom/api"
	"idiom/tag"
)

// chained asks for the chain of a tag, told by texts.
func chained(t *testing.T, x api.Tag, pairs []api.Pair, want string) {
	t.Helper()
	got, e := tag.Chain(x, pairs)
	if textsOf(got) != want || e != api.OK || !slices.EqualFunc(got, tagsOf(want), func(a, b api.Tag) bool { return same(a, b) }) {
		t.Errorf("Chain(%s, %s): %s %d, want %s", clip(x), clip(pairs), clip(textsOf(got)), e, clip(want))
	}
}

// unchained asks for the error of a chain.
func unchained(t *testing.T, x api.Tag, pairs []api.Pair, want api.Errno) {
	t.Helper()
	if got, e := tag.Chain(x, pairs); len(got) > 0 || e != want {
		t.Errorf("Chain(%s, %s): %s %d, want error %d", clip(x), clip(pairs), clip(got), e, want)
	}
}

// TestChain: Tg3, written out.
func TestChain(t *testing.T) {
	for want, all := range map[string][]api.Pair{
		"und":                         nil,
		"en und":                      nil,
		"en-US en und":                nil,
		"und-US und":                  pairs("en de"),
		"und-Latn-US und-Latn und":    nil,
		"und-1996 und":                nil,
		"und-u-nu und":                nil,
		"zh-Hant-TW zh-Hant zh und":   nil,
		"zh-Hant-TW zh-Hant und":      pairs("zh-Hant und"),
		"zh-Hant-TW zh-Hant en und":   pairs("en-US zh", "zh-Hant en"),
		"de-1901-1996 de-1901 de und": nil,
		"de-Latn-CH-1901-1996-rozaj-u-ca-nu-latn de-Latn-CH-1901-1996-rozaj de-Latn-CH-1901-1996 de-Latn-CH-1901 de-Latn-CH de-Latn de und": pairs("en und", "de-1901 en"),
		"es-MX es-419 es und":            pairs("es-MX es-419"),
		"es-MX-u-nu es-MX es-419 es und": pairs("es-MX es-419"),
		"es-u-nu es und":                 pairs("und-US en"),
		"en-u-nu en fr-Latn-1996-rozaj fr-Latn-1996 fr-Latn fr und":  pairs("en fr-Latn-1996-rozaj"),
		"de-1996-rozaj de-1996 en-US gsw de und":                     pairs("gsw de", "de-1996 en-US", "en-US gsw"),
		"de en-1996 en-1901 en-US en und":                            pairs("en-1996 en-1901", "de en-1996", "en-1901 en-US"),
		"en-US und":                                                  pairs("en-US und", "en en-US"),
		"und-US en und":                                              pairs("und-US en"),
		"en und-US und-1996 und":                                     pairs("en und-US", "und-US und-1996"),
		"de-CH-1996 fr-CH fr-FR fr und":                              pairs("de-CH-1996 fr-CH", "de-CH fr", "fr-CH fr-FR"),
		"en-Latn en-US en und":                                       pairs("en-Latn en-US"),
		"zh-Hant-HK-1996 zh-Hant-HK zh-Hant-MO zh-Hant zh-TW zh und": pairs("zh-Hant-HK zh-Hant-MO", "zh-Hant zh-TW"),
	} {
		first, _, _ := strings.Cut(want, " ")
		chained(t, tagOf(first), all, want)
	}
}

// TestChainExamples: the examples of Tg3.
func TestChainExamples(t *testing.T) {
	chained(t, mustParse(t, "es-MX"), pairs("es-MX es-419"), "es-MX es-419 es und")
	unchained(t, mustParse(t, "en"), pairs("en de", "de en"), api.ErrTwice)
}

// TestChainOfAnyTag: Tg3, any tags and pairs.
func TestChainOfAnyTag(t *testing.T) {
	random := rand.New(rand.NewSource(75))
	circles := 0
	for range 20000 {
		x, all := anyTag(random), anyPairs(random)
		if random.Intn(2) == 0 { // a pair that is of use
			p := api.Pair{Child: wantParent(wantText(x)+"-u-nu", nil), Parent: wantText(keyless(random))}
			if wantPairs(append(all, p)) == api.OK {
				all = append(all, p)
			}
		}
		if want, e := wantChain(wantText(x), all); e == api.OK {
			chained(t, x, all, strings.Join(want, " "))
		} else {
			circles++
			unchained(t, x, all, e)
		}
	}
	if circles < 50 {
		t.Errorf("only %d circles", circles)
	}
}

// TestChainOfCircles: Tg3, ErrTwice exactly if a tag would occur twice, not if pairs that are of no use make a circle.
func TestChainOfCircles(t *testing.T) {
	for text, all := range map[string][]api.Pair{
		"en":            pairs("en en"),
		"en-US":         pairs("en en-US"),
		"en-US-u-nu":    pairs("en en-US-1996"),
		"en-Latn-US":    pairs("en en-Latn"),
		"en-1996":       pairs("en-1996 en-1996-rozaj"),
		"en-1996-rozaj": pairs("en en-1996-rozaj"),
		"de":            pairs("de en", "en fr", "fr de-CH"),
		"gsw":           pairs("gsw de", "de en", "en fr", "fr en"),
		"und-US":        pairs("und-US und-1996", "und-1996 und-US"),
		"qaa":           append(manyPairs(255), pair("qjv qaa")),
		"qaa-u-nu-latn": append(manyPairs(255), pair("qjv qjv-US")),
		"aa":            append(manyPairs(255), pair("aa aa")),
		"qaa-Latn-1996": append(manyPairs(254), pair("qju qju"), pair("aa und")),
	} {
		unchained(t, tagOf(text), all, api.ErrTwice)
	}
	circle := pairs("en de", "de en", "fr fr", "gsw gsw-CH")
	chained(t, tagOf("es-MX"), circle, "es-MX es und")
	chained(t, api.Tag{}, circle, "und")
	chained(t, tagOf("gsw-FR"), pairs("gsw-FR und", "gsw gsw-FR"), "gsw-FR und")
	chained(t, tagOf("en-u-nu"), pairs("en de", "de und", "de-CH de-CH"), "en-u-nu en de und")
}

// TestChainOfManyPairs: Tg3, up to MaxRows pairs.
func TestChainOfManyPairs(t *testing.T) {
	texts := []string{}
	for _, p := range manyPairs(257) {
		texts = append(texts, p.Child)
	}
	chained(t, tagOf("qaa"), manyPairs(256), strings.Join(texts, " ")+" und")
	unchained(t, tagOf("qaa"), manyPairs(257), api.ErrFull)
	chained(t, tagOf("en"), manyPairs(256), "en und")
	unchained(t, tagOf("en"), manyPairs(257), api.ErrFull)
	unchained(t, api.Tag{}, make([]api.Pair, 257), api.ErrFull)
	unchained(t, api.Tag{}, slices.Repeat(pairs("en en"), 300), api.ErrFull)
	var long []api.Pair
	for _, p := range manyPairs(256) {
		long = append(long, api.Pair{Child: p.Child, Parent: wantText(api.Tag{Lang: p.Parent, Script: "Latn", Region: "419", Variants: manyVariants(64)})})
	}
	if got, e := tag.Chain(tagOf("qaa"), long); len(got) != 256*67+2 || e != api.OK {
		t.Errorf("a chain of %d tags, %d", len(got), e)
	}
}

// TestChainOfLongTag: Tg3, a tag may have a text of any length.
func TestChainOfLongTag(t *testing.T) {
	for _, size := range []int{65536, 65537, 1 << 20} {
		got, e := tag.Chain(longTag(size), pairs("de fr"))
		if e != api.OK || len(got) != 4 || !same(got[0], longTag(size)) || textsOf(got[1:]) != "de fr und" {
			t.Errorf("a tag of %d bytes: %s %d", size, clip(got), e)
		}
	}
}

// wrongPairs is lists of pairs that are not permitted, by their error.
func wrongPairs() map[api.Errno][][]api.Pair {
	wrong := map[api.Errno][][]api.Pair{
		api.ErrTwice: {pairs("en de", "en fr"), pairs("en de", "de fr", "en de"), pairs("en de", "en de", "x y"), append(manyPairs(255), pair("qaa en")), pairs("en en", "en en")},
		api.ErrFull:  {manyPairs(257), make([]api.Pair, 257), append(manyPairs(256), pair("qaa en")), slices.Repeat(pairs("en"), 1000)},
	}
	for _, text := range []string{"", "e", "EN", "En", "root", "ROOT", "UND", "en_US", "en-us", "en-latn", "en-LATN-US", "en-US-", "-en", "en-u", "en-u-nu", "en-u-nu-latn", "und-u-nu", "en-1996-1901", "en-1996-1996", "en-Rozaj", "en US", "english", "\xff", "en-und", "und-und", wantText(longTag(65536)), wantText(longTag(65537)), repeat("e", 65537), "en-" + strings.Join(manyVariants(65), "-")} {
		for _, all := range [][]api.Pair{{{Child: text, Parent: "en"}}, {{Child: "en", Parent: text}}, {{Child: "en", Parent: "de"}, {Child: "en", Parent: text}}, append(manyPairs(255), api.Pair{Child: text, Parent: text}), {{Child: "de", Parent: text}, {Child: "de", Parent: text}}} {
			wrong[api.ErrTag] = append(wrong[api.ErrTag], all)
		}
		wrong[api.ErrTwice] = append(wrong[api.ErrTwice], []api.Pair{{Child: "en", Parent: "de"}, {Child: "en", Parent: "fr"}, {Child: text, Parent: text}})
	}
	wrong[api.ErrTag] = append(wrong[api.ErrTag], pairs("und en"), pairs("und und"), pairs("en de", "und en", "en de"), pairs("en de", "und en", "und en"))
	return wrong
}

// TestChainErrors: Tg3, the error of Check, ErrFull, and pair by pair ErrTag and ErrTwice, whether or not the pair is of use.
func TestChainErrors(t *testing.T) {
	for want, lists := range wrongPairs() {
		for _, all := range lists {
			if e := wantPairs(all); e != want {
				t.Fatalf("%s has error %d, not %d", clip(all), e, want)
			}
			for _, text := range []string{"und", "zz-US", "en-u-nu", "qaa"} {
				unchained(t, tagOf(text), all, want)
			}
		}
	}
	for want, tags := range wrongTags() {
		for _, x := range tags {
			unchained(t, x, nil, want)
			unchained(t, x, manyPairs(257), want)
			unchained(t, x, pairs("en en", "x y"), want)
		}
	}
	unchained(t, tagOf("en"), pairs("en en", "x y"), api.ErrTag)
}
