package tag_test

import (
	"math/rand"
	"testing"

	"idiom/api"
	"idiom/tag"
)

// printed asks for the text of a tag.
func printed(t *testing.T, x api.Tag, want string) {
	t.Helper()
	if got, e := tag.Print(x); got != want || e != api.OK {
		t.Errorf("Print(%s): %.200q %d, want %.200q", clip(x), got, e, want)
	}
}

// TestPrint: Tg2, written out.
func TestPrint(t *testing.T) {
	for want, x := range map[string]api.Tag{
		"und":                 {},
		"en":                  {Lang: "en"},
		"gsw":                 {Lang: "gsw"},
		"und-Latn":            {Script: "Latn"},
		"und-US":              {Region: "US"},
		"und-419":             {Region: "419"},
		"und-1996":            {Variants: []string{"1996"}},
		"und-u-nu":            {Keys: []api.Key{{Name: "nu"}}},
		"zh-Hant-TW":          {Lang: "zh", Script: "Hant", Region: "TW"},
		"sl-1994-biske-rozaj": {Lang: "sl", Variants: []string{"1994", "biske", "rozaj"}},
		"en-Latn-001-1996-rozaj-u-11-ca-abc-def-nu-latn": {Lang: "en", Script: "Latn", Region: "001", Variants: []string{"1996", "rozaj"}, Keys: []api.Key{{Name: "11"}, {Name: "ca", Value: "abc-def"}, {Name: "nu", Value: "latn"}}},
		"en-u-ca-true-true-nu-true1":                     {Lang: "en", Keys: []api.Key{{Name: "ca", Value: "true-true"}, {Name: "nu", Value: "true1"}}},
	} {
		printed(t, x, want)
	}
}

// TestPrintExamples: the examples of Print, and that of Check.
func TestPrintExamples(t *testing.T) {
	printed(t, mustParse(t, "de-CH-1996-u-nu-true-co-phonebk"), "de-CH-1996-u-co-phonebk-nu")
	printed(t, mustParse(t, "root"), "und")
	if e := tag.Check(mustParse(t, "und-419")); e != api.OK {
		t.Errorf("Check: %d", e)
	}
}

// TestPrintOfAnyTag: Tg2, any valid tags.
func TestPrintOfAnyTag(t *testing.T) {
	random := rand.New(rand.NewSource(72))
	for range 5000 {
		x := anyTag(random)
		printed(t, x, wantText(x))
	}
	printed(t, bigTag(), wantText(bigTag()))
}

// TestPrintErrors: Tg2, the error of Check; ErrLong for a text of more than MaxText bytes, which Check does not ask about.
func TestPrintErrors(t *testing.T) {
	for want, tags := range wrongTags() {
		for _, x := range tags {
			if got, e := tag.Print(x); got != "" || e != want {
				t.Errorf("Print(%s): %.200q %d, want error %d", clip(x), got, e, want)
			}
		}
	}
	printed(t, longTag(65535), wantText(longTag(65535)))
	printed(t, longTag(65536), wantText(longTag(65536)))
	for _, size := range []int{65537, 65538, 1 << 20} {
		x := longTag(size)
		if got, e := tag.Print(x); got != "" || e != api.ErrLong {
			t.Errorf("Print of %d bytes: %.200q %d", size, got, e)
		}
		if e := tag.Check(x); e != api.OK {
			t.Errorf("Check of %d bytes: %d", size, e)
		}
		x.Keys = append(x.Keys, x.Keys[0])
		if got, e := tag.Print(x); got != "" || e != api.ErrTwice {
			t.Errorf("Print of a key twice: %.200q %d", got, e)
		}
	}
}

// TestCheck: Check accepts exactly the valid tags, and tells what is first wrong with another one.
func TestCheck(t *testing.T) {
	for want, tags := range wrongTags() {
		for _, x := range tags {
			if e := tag.Check(x); e != want {
				t.Errorf("Check(%s): %d, want %d", clip(x), e, want)
			}
		}
	}
	random := rand.New(rand.NewSource(73))
	for range 5000 {
		x := anyTag(random)
		if e := tag.Check(x); e != api.OK {
			t.Errorf("Check(%s): %d", clip(x), e)
		}
	}
	if e := tag.Check(bigTag()); e != api.OK {
		t.Errorf("Check of the big tag: %d", e)
	}
}

// damaged is a tag of which a part is another one.
func damaged(random *rand.Rand, x api.Tag) api.Tag {
	part := one(random, []string{"", "und", "en", "En", "Latn", "latn", "US", "us", "419", "1996", "rozaj", "Rozaj", "nu", "NU", "true", "phonebk", "abc-def", "abc-de", "a", "x-abc", "\xff"})
	switch at := random.Intn(10); {
	case at == 0:
		x.Lang = part
	case at == 1:
		x.Script = part
	case at == 2:
		x.Region = part
	case at < 5 && len(x.Variants) > 0:
		x.Variants[random.Intn(len(x.Variants))] = part
	case at < 6 && len(x.Variants) > 1:
		i, j := random.Intn(len(x.Variants)), random.Intn(len(x.Variants))
		x.Variants[i], x.Variants[j] = x.Variants[j], x.Variants[i]
	case at == 6 && len(x.Variants) > 1:
		i := random.Intn(len(x.Variants) - 1)
		x.Variants[i+1] = x.Variants[i]
	case at == 7 && len(x.Keys) > 1:
		i := random.Intn(len(x.Keys) - 1)
		x.Keys[i+1].Name = x.Keys[i].Name
	case at == 8 && len(x.Keys) > 0:
		x.Keys[random.Intn(len(x.Keys))].Name = part
	case len(x.Keys) > 0:
		x.Keys[random.Intn(len(x.Keys))].Value = part
	}
	return x
}

// TestCheckOfDamagedTags: Check tells the first of several violations.
func TestCheckOfDamagedTags(t *testing.T) {
	random := rand.New(rand.NewSource(74))
	counts := map[api.Errno]int{}
	for range 20000 {
		x := anyTag(random)
		for range 1 + random.Intn(3) {
			x = damaged(random, x)
		}
		want := wantCheck(x)
		counts[want]++
		if e := tag.Check(x); e != want {
			t.Errorf("Check(%s): %d, want %d", clip(x), e, want)
		}
	}
	for _, e := range []api.Errno{api.OK, api.ErrTag, api.ErrTwice} {
		if counts[e] < 100 {
			t.Errorf("only %d tags with error %d", counts[e], e)
		}
	}
}
