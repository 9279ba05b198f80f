package tag_test

import (
	"math/rand"
	"slices"
	"testing"

	"idiom/api"
	"idiom/tag"
)

// within asks whether a tag lies within another one.
func within(t *testing.T, x, of api.Tag, want bool) {
	t.Helper()
	if got, e := tag.Within(x, of); got != want || e != api.OK {
		t.Errorf("Within(%s, %s): %t %d", clip(wantText(x)), clip(wantText(of)), got, e)
	}
}

// TestWithin: Tg5, written out.
func TestWithin(t *testing.T) {
	for text, lists := range map[string][2]string{
		"und":                        {"und", "de und-Latn und-US und-419 und-1996 und-u-nu"},
		"de":                         {"und de", "en gsw de-CH und-CH de-Latn und-Latn de-1996 de-u-nu"},
		"de-CH":                      {"und de und-CH de-CH", "en fr-CH de-AT und-AT en-CH de-Latn-CH de-CH-1996 de-CH-u-nu und-Latn"},
		"und-Latn":                   {"und und-Latn", "und-Cyrl de de-Latn und-Latn-US"},
		"zh-Hant-TW":                 {"und zh und-Hant und-TW zh-Hant zh-TW und-Hant-TW zh-Hant-TW", "zh-Hans zh-HK und-Hans-TW und-Hant-HK ja-Hant-TW zh-Hant-TW-1996"},
		"de-1901-1996-rozaj":         {"und de de-1901 de-1996 und-rozaj de-1901-1996 und-1996-rozaj de-1901-rozaj de-1901-1996-rozaj", "en-1901 de-1902 de-1901-1996-biske de-0abc-1901 und-biske de-CH-1901"},
		"en-u-ca-gregory-co-nu-latn": {"und en en-u-ca-gregory und-u-co en-u-co-nu-latn und-u-ca-gregory-nu-latn en-u-ca-gregory-co-nu-latn", "en-u-ca en-u-ca-greg en-u-ca-gregory-latn en-u-co-phonebk en-u-nu-arab en-u-ca-latn en-u-ca-gregory-nu en-u-ca-gregory-zz und-u-11 de-u-co"},
		"de-Latn-CH-1996-u-nu":       {"und-1996-u-nu de-CH-u-nu und-Latn-u-nu und-CH-1996 de-Latn-CH-1996-u-nu und-u-nu", "de-u-nu-latn de-AT-1996-u-nu de-Latn-1901 de-Cyrl-u-nu und-Latn-1996-u-ca"},
	} {
		for _, of := range tagsOf(lists[0]) {
			within(t, tagOf(text), of, true)
		}
		for _, of := range tagsOf(lists[1]) {
			within(t, tagOf(text), of, false)
		}
	}
}

// TestWithinExamples: the example of Tg5.
func TestWithinExamples(t *testing.T) {
	within(t, mustParse(t, "de-CH"), mustParse(t, "de"), true)
}

// partly is a valid tag that has some of the parts of another one, and sometimes others.
func partly(random *rand.Rand, x api.Tag) api.Tag {
	other := anyTag(random)
	if random.Intn(3) > 0 {
		other = api.Tag{}
	}
	some := func(part, another string) string {
		if random.Intn(2) == 0 {
			return part
		}
		return another
	}
	other.Lang, other.Script, other.Region = some(x.Lang, other.Lang), some(x.Script, other.Script), some(x.Region, other.Region)
	for _, variant := range x.Variants {
		if random.Intn(2) == 0 && !slices.Contains(other.Variants, variant) {
			other.Variants = append(other.Variants, variant)
		}
	}
	for _, key := range x.Keys {
		if random.Intn(2) == 0 && !slices.Contains(namesOf(other.Keys), key.Name) {
			other.Keys = append(other.Keys, key)
		}
	}
	return madeTag(other.Lang, other.Script, other.Region, other.Variants, other.Keys)
}

// TestWithinAnyTag: Tg5, any tags.
func TestWithinAnyTag(t *testing.T) {
	random := rand.New(rand.NewSource(77))
	counts := map[bool]int{}
	for range 20000 {
		x := anyTag(random)
		of := partly(random, x)
		want := wantWithin(x, of)
		counts[want]++
		within(t, x, of, want)
		within(t, of, x, wantWithin(of, x))
	}
	if counts[true] < 5000 || counts[false] < 2000 {
		t.Errorf("too few: %v", counts)
	}
	big := bigTag()
	within(t, big, big, true)
	big.Variants = big.Variants[1:]
	within(t, bigTag(), big, true)
	within(t, big, bigTag(), false)
	big.Keys[63].Value = "latn"
	within(t, bigTag(), big, false)
	within(t, longTag(100000), longTag(100000), true)
	within(t, longTag(100000), longTag(100001), false)
}

// TestWithinErrors: Tg5, the errors of Check, first those for the tag that lies within the other one.
func TestWithinErrors(t *testing.T) {
	for want, tags := range wrongTags() {
		for _, x := range tags {
			for _, list := range [][2]api.Tag{{x, tagOf("en")}, {tagOf("en"), x}, {x, x}, {x, {Lang: "e"}}, {x, {Variants: []string{"1996", "1996"}}}, {x, {Keys: make([]api.Key, 65)}}} {
				if got, e := tag.Within(list[0], list[1]); got || e != want {
					t.Errorf("Within(%s, %s): %t %d, want error %d", clip(list[0]), clip(list[1]), got, e, want)
				}
			}
		}
	}
}
