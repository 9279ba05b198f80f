package tag_test

import (
	"math/rand"
	"slices"
	"strings"
	"testing"

	"idiom/api"
	"idiom/tag"
)

// parsed asks for the tag of a text.
func parsed(t *testing.T, text string, want api.Tag) {
	t.Helper()
	if got, at, e := tag.Parse(text); !same(got, want) || at != 0 || e != api.OK {
		t.Errorf("Parse(%.200q): %s, %d at %d, want %s", text, clip(got), e, at, clip(want))
	}
}

// rejected asks for the error of a text.
func rejected(t *testing.T, text string, at int, want api.Errno) {
	t.Helper()
	if got, place, e := tag.Parse(text); !same(got, api.Tag{}) || place != at || e != want {
		t.Errorf("Parse(%.200q): %s, %d at %d, want %d at %d", text, clip(got), e, place, want, at)
	}
}

// rejectedAtMark asks for an error at the place of a mark ^ in a text, without which it is parsed.
func rejectedAtMark(t *testing.T, text string, want api.Errno) {
	t.Helper()
	before, after, found := strings.Cut(text, "^")
	if !found || strings.Contains(after, "^") {
		t.Fatalf("not one mark in %q", text)
	}
	rejected(t, before+after, len(before), want)
}

// TestParse: Tg1, written out.
func TestParse(t *testing.T) {
	for text, want := range map[string]api.Tag{
		"en":                   {Lang: "en"},
		"GSW":                  {Lang: "gsw"},
		"und":                  {},
		"UnD":                  {},
		"root":                 {},
		"Root":                 {},
		"ROOT":                 {},
		"rooT":                 {},
		"uND_lATN":             {Script: "Latn"},
		"und-us":               {Region: "US"},
		"und-419":              {Region: "419"},
		"en_us":                {Lang: "en", Region: "US"},
		"ZH-hANT-tw":           {Lang: "zh", Script: "Hant", Region: "TW"},
		"sr-Latn-001":          {Lang: "sr", Script: "Latn", Region: "001"},
		"de-1996":              {Lang: "de", Variants: []string{"1996"}},
		"de-Root":              {Lang: "de", Script: "Root"},
		"de-Latn-1996":         {Lang: "de", Script: "Latn", Variants: []string{"1996"}},
		"sl-ROZAJ_biske-1994":  {Lang: "sl", Variants: []string{"1994", "biske", "rozaj"}},
		"de-abcde-12345-0ABC":  {Lang: "de", Variants: []string{"0abc", "12345", "abcde"}},
		"ca-ES-valencia":       {Lang: "ca", Region: "ES", Variants: []string{"valencia"}},
		"de-u-nu":              {Lang: "de", Keys: []api.Key{{Name: "nu"}}},
		"de-U-NU-LATN":         {Lang: "de", Keys: []api.Key{{Name: "nu", Value: "latn"}}},
		"de-u-nu-true":         {Lang: "de", Keys: []api.Key{{Name: "nu"}}},
		"de-u-nu-TruE":         {Lang: "de", Keys: []api.Key{{Name: "nu"}}},
		"de-u-nu-true-true":    {Lang: "de", Keys: []api.Key{{Name: "nu", Value: "true-true"}}},
		"de-u-nu-true1":        {Lang: "de", Keys: []api.Key{{Name: "nu", Value: "true1"}}},
		"de-u-nu-ca-true_Abc":  {Lang: "de", Keys: []api.Key{{Name: "ca", Value: "true-abc"}, {Name: "nu"}}},
		"de-u-nu-abc_DEF-true": {Lang: "de", Keys: []api.Key{{Name: "nu", Value: "abc-def-true"}}},
		"und-u-11":             {Keys: []api.Key{{Name: "11"}}},
		"en-US-u-US-USA":       {Lang: "en", Region: "US", Keys: []api.Key{{Name: "us", Value: "usa"}}},
		"en-u-ca-Gregory-19-z1-12345678-ab-1996-rozaj": {Lang: "en", Keys: []api.Key{{Name: "19"}, {Name: "ab", Value: "1996-rozaj"}, {Name: "ca", Value: "gregory"}, {Name: "z1", Value: "12345678"}}},
		"zh_hant_hk_1996_u_co_true_nu_hanidec":         {Lang: "zh", Script: "Hant", Region: "HK", Variants: []string{"1996"}, Keys: []api.Key{{Name: "co"}, {Name: "nu", Value: "hanidec"}}},
	} {
		parsed(t, text, want)
	}
}

// TestParseExamples: the examples of Tg1.
func TestParseExamples(t *testing.T) {
	parsed(t, "EN_latn-us", api.Tag{Lang: "en", Script: "Latn", Region: "US"})
	rejected(t, "e", 0, api.ErrTag)
	rejected(t, "en-US-GB", 6, api.ErrTag)
	rejected(t, "en-u", 4, api.ErrTag)
	rejected(t, "en-1996-1996", 8, api.ErrTwice)
}

// TestParseErrors: Tg1, each error at its place.
func TestParseErrors(t *testing.T) {
	for want, texts := range map[api.Errno][]string{
		api.ErrTag: {
			"^", "^-", "^_", "^-en", "^e", "^e-US", "^1", "^e1", "^12", "^123", "^u", "^u-nu", "^latn", "^unde", "^Latn-US", "^roots", "^root-US", "^root_", "^roo t", "^english", "^en US", "^ en", "^en\n", "^\xff", "^\u00e9n", "^\u212aa", "^e\u017f", "^\u0130d", "^roo\u00fe", "^r\u043e\u043et", "^en.US", "^en\x00",
			"en-^", "en_^", "en-^-US", "en-^_US", "en-^-", "en-US-^", "en-Latn-^", "en-1996-^", "en-u-^", "en-u-nu-^", "en-u-nu-latn-^", "en-u-nu-^-latn", "en-u-^-nu", "en-^-u-nu", "en-Latn-^-US",
			"en-u^", "en_U^", "en-US-1996-u^", "und-u^",
			"en-^x", "en-^x-nu", "en-^t-nu", "en-^a", "en-^1", "en-^v-nu", "en-^abc", "en-^12", "en-^1a", "en-^a1", "en-^12a", "en-^a12", "en-^1-2", "en-^abcdefghi", "en-^123456789", "en-^abc1", "en-^la1n", "en-^L\u00e4tn", "en-^Lat\u212a", "en-^U\u017f", "en-^\u0661\u0662\u0663", "en-^\xff\xff", "en-^ US", "en-^US ", "en-^roza\u212a",
			"en-Latn-^Latn", "en-Latn-^Cyrl", "en-US-^Latn", "en-US-^GB", "en-US-^419", "en-419-^US", "en-1996-^US", "en-1996-^Latn", "en-rozaj-^419", "en-US-^abc", "en-Latn-^abcd", "en-Latn-US-^en", "en-1996-^abcd", "en-1996-^12", "en-US-^und", "en-^und", "de-12345678-1abc-^ABC", "en-US-rozaj-^x-abc", "en-1996-^1996\xff", "en-1996-^roz",
			"en-u-^n", "en-u-^abc", "und_u-^und", "en-u-^latn-nu", "en-u-^u-nu", "en-u-^1", "en-u-^n\xff", "en-u-^\u00e9", "en-u-^true", "en-u-^1996",
			"en-u-nu-^x", "en-u-nu-^u", "en-u-nu-^u-ca", "en-u-nu-latn-^u-ca-abc", "en-u-nu-^1", "en-u-nu-^abcdefghi", "en-u-nu-latn-^123456789", "en-u-nu-^lat.", "en-u-nu-^lat\xff", "en-u-nu-latn-^t\u212at", "en-u-nu-latn-ca-^x-abc", "en-u-nu-latn-ca-true-^u", "en-u-nu-^t-abc", "en-u-nu-^tr\u00fce",
			"en-1996-^US-1996", "en-^x-1996-1996", "en-u-^x-nu-nu", "en-u-nu-^x-nu",
		},
		api.ErrTwice: {
			"en-1996-^1996", "en-1996_^1996-x", "en-rozaj-^ROZAJ", "en-RoZaJ-^rOzAj", "en-1996-rozaj-^1996", "en-1996-rozaj-1901-^rozaj-1901", "en-US-1996-^1996-u-nu-nu", "und-0abc-^0ABC", "en-1996-^1996-", "en-1996-^1996-1996",
			"en-u-nu-^nu", "en-u-nu-latn-^nu", "en-u-nu-latn-^NU-arab", "en-u-nu-latn-ca-abc-^nu-latn", "en-u-NU-TRUE-^nu-true", "en-u-nu-ca-co-^ca", "en-u-nu-ca-co-^co-x", "en-u-nu-^nu-", "en-1996-u-11-^11", "en-u-nu-nux-^nu-u",
		},
	} {
		for _, text := range texts {
			rejectedAtMark(t, text, want)
		}
	}
}

// TestParseFull: Tg1, ErrFull for a variant or a key in excess, behind which nothing is read; one that occurred before is ErrTwice.
func TestParseFull(t *testing.T) {
	variants, keys := "-"+strings.Join(manyVariants(64), "-"), ""
	for _, key := range manyKeys(64, "") {
		keys += "-" + key.Name
	}
	parsed(t, "de"+variants+"-u"+keys, api.Tag{Lang: "de", Variants: manyVariants(64), Keys: manyKeys(64, "")})
	parsed(t, "de"+variants+"-u"+strings.ReplaceAll(keys, "-", "-true-")[5:]+"-abc-def", tagOf("de"+variants+"-u"+keys+"-abc-def"))
	for _, x := range []struct {
		text string
		want api.Errno
	}{
		{"de" + variants + "^-rozaj", api.ErrFull},
		{"de" + variants + "^-1996-", api.ErrFull},
		{"de-Latn-US" + variants + "^_rozaj-rozaj", api.ErrFull},
		{"de" + variants + "^-ROZAJ-u-nu-nu", api.ErrFull},
		{"de" + variants + "^-10000", api.ErrTwice},
		{"de" + variants + "^-10007-rozaj", api.ErrTwice},
		{"de" + variants + "^-roz", api.ErrTag},
		{"de" + variants + "^-US", api.ErrTag},
		{"de" + variants + "-u^", api.ErrTag},
		{"de-u" + keys + "^-zz", api.ErrFull},
		{"de-u" + keys + "-abc^-ZZ-", api.ErrFull},
		{"de-u" + keys + "^-zz-true-00", api.ErrFull},
		{"de" + variants + "-u" + keys + "^_zz", api.ErrFull},
		{"de-u" + keys + "^-00", api.ErrTwice},
		{"de-u" + keys + "-true^-01-abc", api.ErrTwice},
		{"de-u" + keys + "^-u", api.ErrTag},
		{"de-u" + keys + "-abc^-", api.ErrTag},
	} {
		before, after, _ := strings.Cut(x.text, "^")
		at := len(before)
		if after != "" {
			at++ // behind the separator
		}
		rejected(t, before+after, at, x.want)
	}
}

// TestParseLong: Tg1, ErrLong ahead of whatever else is wrong; up to MaxText bytes texts are read.
func TestParseLong(t *testing.T) {
	for _, text := range []string{repeat("-", 65537), repeat("e", 65537), wantText(longTag(65537)), "de-u-nu" + repeat("-latn", 20000), "en-US-GB" + repeat("-", 1<<17)} {
		rejected(t, text, 0, api.ErrLong)
	}
	parsed(t, wantText(longTag(65536)), longTag(65536))
	parsed(t, strings.ToUpper(wantText(longTag(65535))), longTag(65535))
	parsed(t, strings.ReplaceAll(wantText(longTag(65533)), "-", "_"), longTag(65533))
	rejected(t, wantText(longTag(65535))+"-", 65536, api.ErrTag)
	rejected(t, wantText(longTag(65534))+"-x", 65535, api.ErrTag)
	rejected(t, wantText(longTag(65533))+"-nu", 65534, api.ErrTwice)
	rejected(t, repeat("-", 65536), 0, api.ErrTag)
	rejected(t, "en"+repeat("-", 65534), 3, api.ErrTag)
	rejected(t, repeat("e", 65536), 0, api.ErrTag)
}

// TestParseOfAnyTag: Tg1, any tag with its lists in any order, in any case and with any separators.
func TestParseOfAnyTag(t *testing.T) {
	random := rand.New(rand.NewSource(71))
	for range 10000 {
		x := anyTag(random)
		parsed(t, wantText(x), x)
		parsed(t, spelled(random, x), x)
	}
	for range 20 {
		parsed(t, spelled(random, bigTag()), bigTag())
	}
}

// TestParseOfEachByte: Tg1, only letters, digits and separators may stand in a text, letters alone in a language or a script, and two letters or three digits in a region.
func TestParseOfEachByte(t *testing.T) {
	for b := range 256 {
		sign := string([]byte{byte(b)})
		for _, text := range []string{"e^", "^e", "ab^", "^", "en-^atn", "en-Lat^", "en-U^", "en-^S", "en-41^", "en-^19", "en-^996", "en-199^", "en-^bcde", "en-abcd^", "en-abc^efgh", "en-u-n^", "en-u-^u", "en-u-nu-la^", "en-u-nu-^tn", "en-u-nu-latn^n", "en-u-nu-latn-la^n", "en^US", "en-US^1996", "^oot", "roo^", "en-^-nu"} {
			text = strings.Replace(text, "^", sign, 1)
			want, at, e := wantParse(text)
			if got, place, e2 := tag.Parse(text); !same(got, want) || place != at || e2 != e {
				t.Errorf("Parse(%q): %s, %d at %d, want %s, %d at %d", text, clip(got), e2, place, clip(want), e, at)
			}
		}
		isAlphanumeric := slices.Contains([]byte("0123456789ABCDEFGHIJKLMNOPQRSTUVWXYZabcdefghijklmnopqrstuvwxyz"), byte(b))
		if _, _, e := tag.Parse("en-abcd" + sign + "fgh"); (e == api.OK) != isAlphanumeric {
			t.Errorf("a variant with byte %x: error %d", b, e)
		}
	}
}
