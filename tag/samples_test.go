package tag_test

import (
	"fmt"
	"math/rand"
	"regexp"
	"slices"
	"strconv"
	"strings"
	"testing"

	"idiom/api"
	"idiom/tag"
)

// What the tests hold the program against is worked out here by package regexp, and on the texts of tags.

// The forms of a tag's parts, of the beginning of a text up to the end of one of its parts, and of one of the keys in it.
var (
	langForm    = regexp.MustCompile(`^([a-z]{2,3})?$`)
	scriptForm  = regexp.MustCompile(`^([A-Z][a-z]{3})?$`)
	regionForm  = regexp.MustCompile(`^([A-Z]{2}|[0-9]{3})?$`)
	variantForm = regexp.MustCompile(`^([0-9a-z]{5,8}|[0-9][0-9a-z]{3})$`)
	nameForm    = regexp.MustCompile(`^[0-9a-z]{2}$`)
	valueForm   = regexp.MustCompile(`^([0-9a-z]{3,8}(-[0-9a-z]{3,8})*)?$`)
	rootForm    = regexp.MustCompile(`^[rR][oO][oO][tT]$`)
	beginForm   = regexp.MustCompile(`^([A-Za-z]{2,3})(?:[-_]([A-Za-z]{4}))?(?:[-_]([A-Za-z]{2}|[0-9]{3}))?((?:[-_](?:[0-9A-Za-z]{5,8}|[0-9][0-9A-Za-z]{3}))*)(?:[-_][uU]((?:[-_][0-9A-Za-z]{2}(?:[-_][0-9A-Za-z]{3,8})*)*))?$`)
	keyForm     = regexp.MustCompile(`[-_]([0-9A-Za-z]{2})((?:[-_][0-9A-Za-z]{3,8})*)`)
)

func repeat(s string, n int) string {
	return strings.Repeat(s, n)
}

// clip is what a message of a test tells of a value that may be long.
func clip(value any) string {
	text := fmt.Sprintf("%+v", value)
	return text[:min(len(text), 300)]
}

// same tells whether two values are the same one, a nil list being an empty one.
func same(a, b any) bool {
	return fmt.Sprintf("%q", a) == fmt.Sprintf("%q", b)
}

// asSmall is s with its letters A to Z in lower case.
func asSmall(s string) string {
	bytes := []byte(s)
	for i, b := range bytes {
		if 'A' <= b && b <= 'Z' {
			bytes[i] += 'a' - 'A'
		}
	}
	return string(bytes)
}

// partsOf is the texts between the separators of a text that begins with one.
func partsOf(s string) []string {
	return strings.FieldsFunc(s, func(r rune) bool { return r == '-' || r == '_' })
}

// keysOf is the keys of a text that begins with a separator, as they stand there.
func keysOf(s string) []api.Key {
	var keys []api.Key
	for _, m := range keyForm.FindAllStringSubmatch(asSmall(s), -1) {
		value := strings.Join(partsOf(m[2]), "-")
		if value == "true" {
			value = ""
		}
		keys = append(keys, api.Key{Name: m[1], Value: value})
	}
	return keys
}

// lastIn is the error of a list of names that are read one by one, of which only the last one may be wrong.
func lastIn(names []string) api.Errno {
	last := len(names) - 1
	switch {
	case slices.Contains(names[:last], names[last]):
		return api.ErrTwice
	case last == 64:
		return api.ErrFull
	}
	return api.OK
}

// namesOf is the names of keys.
func namesOf(keys []api.Key) []string {
	var names []string
	for _, key := range keys {
		names = append(names, key.Name)
	}
	return names
}

// wantParse is what Parse answers, by the definition: each beginning of s up to the end of a part has to be the beginning of a tag's text.
func wantParse(s string) (api.Tag, int, api.Errno) {
	if len(s) > 65536 {
		return api.Tag{}, 0, api.ErrLong
	}
	if rootForm.MatchString(s) {
		return api.Tag{}, 0, api.OK
	}
	for begin := 0; ; {
		end := len(s)
		if size := strings.IndexAny(s[begin:], "-_"); size >= 0 {
			end = begin + size
		}
		m := beginForm.FindStringSubmatchIndex(s[:end])
		if m == nil {
			return api.Tag{}, begin, api.ErrTag
		}
		variants := partsOf(asSmall(s[m[8]:m[9]]))
		var keys []api.Key
		if m[10] >= 0 {
			keys = keysOf(s[m[10]:m[11]])
		}
		e := api.OK
		switch {
		case m[8] < begin && begin < m[9]:
			e = lastIn(variants)
		case m[10] >= 0 && m[10] < begin && end-begin == 2:
			e = lastIn(namesOf(keys))
		}
		if e != api.OK {
			return api.Tag{}, begin, e
		}
		if end < len(s) {
			begin = end + 1
			continue
		}
		if m[10] >= 0 && len(keys) == 0 {
			return api.Tag{}, len(s), api.ErrTag
		}
		part := func(at int) string {
			if m[at] < 0 {
				return ""
			}
			return s[m[at]:m[at+1]]
		}
		return madeTag(part(2), part(4), part(6), variants, keys), 0, api.OK
	}
}

// madeTag is the tag of the parts of a text.
func madeTag(lang, script, region string, variants []string, keys []api.Key) api.Tag {
	t := api.Tag{Lang: asSmall(lang), Region: strings.ToUpper(region), Variants: variants, Keys: keys}
	if t.Lang == "und" {
		t.Lang = ""
	}
	if script != "" {
		t.Script = string(script[0]&^0x20) + asSmall(script[1:])
	}
	slices.Sort(t.Variants)
	slices.SortFunc(t.Keys, func(a, b api.Key) int { return strings.Compare(a.Name, b.Name) })
	return t
}

// wantCheck is the first violation of a tag, by the definition.
func wantCheck(t api.Tag) api.Errno {
	if !langForm.MatchString(t.Lang) || t.Lang == "und" || !scriptForm.MatchString(t.Script) || !regionForm.MatchString(t.Region) {
		return api.ErrTag
	}
	if len(t.Variants) > 64 {
		return api.ErrFull
	}
	for i, variant := range t.Variants {
		switch {
		case !variantForm.MatchString(variant):
			return api.ErrTag
		case i > 0 && variant == t.Variants[i-1]:
			return api.ErrTwice
		case i > 0 && variant < t.Variants[i-1]:
			return api.ErrTag
		}
	}
	if len(t.Keys) > 64 {
		return api.ErrFull
	}
	for i, key := range t.Keys {
		switch {
		case !nameForm.MatchString(key.Name) || !valueForm.MatchString(key.Value) || key.Value == "true":
			return api.ErrTag
		case i > 0 && key.Name == t.Keys[i-1].Name:
			return api.ErrTwice
		case i > 0 && key.Name < t.Keys[i-1].Name:
			return api.ErrTag
		}
	}
	return api.OK
}

// wantText is the text of a valid tag.
func wantText(t api.Tag) string {
	text := t.Lang
	if text == "" {
		text = "und"
	}
	for _, part := range append([]string{t.Script, t.Region}, t.Variants...) {
		if part != "" {
			text += "-" + part
		}
	}
	if len(t.Keys) > 0 {
		text += "-u"
	}
	for _, key := range t.Keys {
		text += "-" + key.Name
		if key.Value != "" {
			text += "-" + key.Value
		}
	}
	return text
}

// isKeyless tells whether s is the text of a valid tag without keys. The longest one is below 1000 bytes.
func isKeyless(s string) bool {
	if len(s) > 1000 {
		return false
	}
	t, _, e := wantParse(s)
	return e == api.OK && len(t.Keys) == 0 && wantText(t) == s
}

// wantPairs is the error of pairs.
func wantPairs(pairs []api.Pair) api.Errno {
	if len(pairs) > 256 {
		return api.ErrFull
	}
	for i, pair := range pairs {
		if !isKeyless(pair.Child) || !isKeyless(pair.Parent) || pair.Child == "und" {
			return api.ErrTag
		}
		if slices.ContainsFunc(pairs[:i], func(p api.Pair) bool { return p.Child == pair.Child }) {
			return api.ErrTwice
		}
	}
	return api.OK
}

// wantParent is the text of the parent of a tag that is not the root: without pairs, each part of a text is dropped from its end.
func wantParent(text string, pairs []api.Pair) string {
	if keyless, _, found := strings.Cut(text, "-u-"); found {
		return keyless
	}
	for _, pair := range pairs {
		if pair.Child == text {
			return pair.Parent
		}
	}
	if at := strings.LastIndex(text, "-"); at > 0 {
		return text[:at]
	}
	return "und"
}

// wantChain is the texts of a chain, or an error.
func wantChain(text string, pairs []api.Pair) ([]string, api.Errno) {
	chain := []string{text}
	for text != "und" {
		text = wantParent(text, pairs)
		if slices.Contains(chain, text) {
			return nil, api.ErrTwice
		}
		chain = append(chain, text)
	}
	return chain, api.OK
}

// wantLookup is the place that Lookup answers for valid arguments, or an error.
func wantLookup(want, have []api.Tag, pairs []api.Pair) (int, api.Errno) {
	var wanted []string
	for _, t := range want {
		chain, e := wantChain(wantText(t), pairs)
		if e != api.OK {
			return 0, e
		}
		wanted = append(wanted, chain[:len(chain)-1]...)
	}
	for _, text := range append(wanted, "und") {
		if at := slices.IndexFunc(have, func(t api.Tag) bool { return wantText(t) == text }); at >= 0 {
			return at, api.OK
		}
	}
	return 0, api.ErrNone
}

// wantWithin tells whether a valid tag lies within another one.
func wantWithin(t, of api.Tag) bool {
	facts := func(t api.Tag) []string {
		all := []string{"lang " + t.Lang, "script " + t.Script, "region " + t.Region}
		for _, variant := range t.Variants {
			all = append(all, "variant "+variant)
		}
		for _, key := range t.Keys {
			all = append(all, "key "+key.Name+" is "+key.Value)
		}
		return all
	}
	own := append(facts(t), "lang ", "script ", "region ")
	return !slices.ContainsFunc(facts(of), func(fact string) bool { return !slices.Contains(own, fact) })
}

// The parts of which tags are made.
var (
	langs    = []string{"", "en", "de", "fr", "zh", "gsw", "es", "aaa", "zz", "sr"}
	scripts  = []string{"", "", "Latn", "Cyrl", "Hant", "Aaaa", "Zzzz"}
	regions  = []string{"", "", "US", "CH", "419", "001", "ZZ", "AA", "999"}
	variants = []string{"1996", "1901", "rozaj", "biske", "valencia", "posix", "0abc", "9zzz", "12345678", "1a2b3c", "abcde", "zzzzzzzz", "0000", "scouse", "12abc"}
	names    = []string{"nu", "ca", "co", "11", "0a", "a0", "zz", "aa", "00", "ua", "tr"}
	values   = []string{"", "", "latn", "phonebk", "gregory", "islamic-civil", "true-true", "true1", "abc-def-12345678", "und", "000", "999-true", "posix-1996-root"}
)

// some is some elements of a list, ascending.
func some(random *rand.Rand, list []string, most int) []string {
	var chosen []string
	for _, at := range random.Perm(len(list))[:random.Intn(min(most, len(list))+1)] {
		chosen = append(chosen, list[at])
	}
	slices.Sort(chosen)
	return chosen
}

func one(random *rand.Rand, list []string) string {
	return list[random.Intn(len(list))]
}

// keyless is a valid tag without keys.
func keyless(random *rand.Rand) api.Tag {
	t := api.Tag{Lang: one(random, langs), Script: one(random, scripts), Region: one(random, regions)}
	if random.Intn(3) == 0 {
		t.Variants = some(random, variants, 6)
	}
	return t
}

// anyTag is a valid tag.
func anyTag(random *rand.Rand) api.Tag {
	t := keyless(random)
	if random.Intn(2) == 0 {
		for _, name := range some(random, names, 5) {
			t.Keys = append(t.Keys, api.Key{Name: name, Value: one(random, values)})
		}
	}
	return t
}

// manyVariants is n variants, ascending.
func manyVariants(n int) []string {
	var all []string
	for i := range n {
		all = append(all, strconv.Itoa(10000+i*7))
	}
	return all
}

// manyKeys is n keys, ascending.
func manyKeys(n int, value string) []api.Key {
	var all []api.Key
	for i := range n {
		all = append(all, api.Key{Name: string([]byte{"0123456789abcdefghijklmnopqrstuvwxyz"[i/36], "0123456789abcdefghijklmnopqrstuvwxyz"[i%36]}), Value: value})
	}
	return all
}

// bigTag is a valid tag with as many parts as there may be.
func bigTag() api.Tag {
	return api.Tag{Lang: "gsw", Script: "Latn", Region: "419", Variants: manyVariants(64), Keys: manyKeys(64, "abcdefgh-12345678")}
}

// spelled is a text of a valid tag with its lists in any order, in any case, and with any separators.
func spelled(random *rand.Rand, t api.Tag) string {
	variants, keys := slices.Clone(t.Variants), slices.Clone(t.Keys)
	random.Shuffle(len(variants), func(i, j int) { variants[i], variants[j] = variants[j], variants[i] })
	random.Shuffle(len(keys), func(i, j int) { keys[i], keys[j] = keys[j], keys[i] })
	for i := range keys {
		if keys[i].Value == "" && random.Intn(2) == 0 {
			keys[i].Value = "true"
		}
	}
	t.Variants, t.Keys = variants, keys
	bytes := []byte(wantText(t))
	for i, b := range bytes {
		switch {
		case b == '-' && random.Intn(2) == 0:
			bytes[i] = '_'
		case 'a' <= b && b <= 'z' && random.Intn(2) == 0:
			bytes[i] -= 0x20
		case 'A' <= b && b <= 'Z' && random.Intn(2) == 0:
			bytes[i] += 0x20
		}
	}
	return string(bytes)
}

// pair is the pair of a text as in `fr en`.
func pair(text string) api.Pair {
	child, parent, _ := strings.Cut(text, " ")
	return api.Pair{Child: child, Parent: parent}
}

// pairs is the pairs of texts as in `fr en`.
func pairs(texts ...string) []api.Pair {
	var all []api.Pair
	for _, text := range texts {
		all = append(all, pair(text))
	}
	return all
}

// manyPairs is n pairs, each from one language to the next one.
func manyPairs(n int) []api.Pair {
	var all []api.Pair
	name := func(i int) string { return string([]byte{'q', 'a' + byte(i/26), 'a' + byte(i%26)}) }
	for i := range n {
		all = append(all, api.Pair{Child: name(i), Parent: name(i + 1)})
	}
	return all
}

// anyPairs is valid pairs, in which there may be a circle.
func anyPairs(random *rand.Rand) []api.Pair {
	var all []api.Pair
	for range random.Intn(8) {
		p := api.Pair{Child: wantText(keyless(random)), Parent: wantText(keyless(random))}
		if wantPairs(append(all, p)) == api.OK {
			all = append(all, p)
		}
	}
	return all
}

// tagOf is the tag of a text.
func tagOf(text string) api.Tag {
	t, at, e := wantParse(text)
	if e != api.OK {
		panic(fmt.Sprintf("no tag: %.200q, %d at %d", text, e, at))
	}
	return t
}

// tagsOf is the tags of texts between spaces.
func tagsOf(texts string) []api.Tag {
	var tags []api.Tag
	for _, text := range strings.Fields(texts) {
		tags = append(tags, tagOf(text))
	}
	return tags
}

// textsOf is the texts of tags, with spaces between them.
func textsOf(tags []api.Tag) string {
	var texts []string
	for _, t := range tags {
		texts = append(texts, wantText(t))
	}
	return strings.Join(texts, " ")
}

// longTag is a valid tag whose text has size bytes, at least 70.
func longTag(size int) api.Tag {
	value := "xxx"
	if rest := (size - len("de-u-nu-xxx")) % 4; rest > 0 {
		value += repeat("x", rest)
	}
	value += repeat("-xxx", (size-len("de-u-nu-xxx"))/4)
	return api.Tag{Lang: "de", Keys: []api.Key{{Name: "nu", Value: value}}}
}

// wrongTags is tags that are not valid, by what is first wrong with them.
func wrongTags() map[api.Errno][]api.Tag {
	wrong := map[api.Errno][]api.Tag{}
	add := func(e api.Errno, tags ...api.Tag) {
		wrong[e] = append(wrong[e], tags...)
	}
	for _, s := range []string{"und", "De", "DE", "e", "engl", "d1", "12", "root", "d-", "\xff\xfe", "\u00e4", "de ", "K\u212a", "\u212a", "d\u00e9", "-", "d\n", "UND", "\u0130s"} {
		add(api.ErrTag, api.Tag{Lang: s}, api.Tag{Lang: s, Variants: manyVariants(65)})
	}
	for _, s := range []string{"latn", "LATN", "Lat", "Latin", "La1n", "LaTn", "1atn", "L", "Lat-", "\xffatn", "\u00c4at", "latN", "Lat\u212a", "\u017fatn", "\u0130at"} {
		add(api.ErrTag, api.Tag{Script: s}, api.Tag{Script: s, Variants: manyVariants(65)}, api.Tag{Lang: "de", Script: s})
	}
	for _, s := range []string{"us", "Us", "uS", "U", "USA", "41", "4190", "41A", "U1", "1U", "\u212a", "\u00df", "US ", "U-", "12-", "\uff11", "\u0661\u0661"} {
		add(api.ErrTag, api.Tag{Region: s}, api.Tag{Region: s, Variants: manyVariants(65)}, api.Tag{Lang: "de", Script: "Latn", Region: s})
	}
	for _, s := range []string{"", "1", "199", "abcd", "a996", "Rozaj", "rozaJ", "123456789", "abcdefghi", "roz-j", "roz_j", "1-96", "rozaj\xff", "\u00e9roz", "\u212aroza", "1\u212a", " 1996", "199X", "rozaj "} {
		bad := []string{s}
		add(api.ErrTag, api.Tag{Variants: bad}, api.Tag{Variants: append(bad, s)}, api.Tag{Variants: append(bad, "1996")}, api.Tag{Variants: []string{"1996", s}})
		add(api.ErrTag, api.Tag{Variants: bad, Keys: manyKeys(65, "")}, api.Tag{Variants: []string{"1996", s, s}}, api.Tag{Variants: append(manyVariants(63), s)})
		add(api.ErrFull, api.Tag{Variants: append(manyVariants(64), s)}, api.Tag{Variants: append(bad, manyVariants(64)...)})
		add(api.ErrTwice, api.Tag{Variants: []string{"1996", "1996", s}})
	}
	for _, s := range []string{"", "n", "num", "Nu", "nU", "NU", "n-", "-u", "\u00e9", "\xff\xfe", "n ", "\u0660"} {
		bad := api.Key{Name: s}
		add(api.ErrTag, api.Tag{Keys: []api.Key{bad}}, api.Tag{Keys: []api.Key{bad, bad}}, api.Tag{Keys: []api.Key{{Name: "00"}, bad}}, api.Tag{Keys: append(manyKeys(63, ""), bad)})
		add(api.ErrFull, api.Tag{Keys: append(manyKeys(64, ""), bad)}, api.Tag{Keys: append([]api.Key{bad}, manyKeys(64, "")...)})
		add(api.ErrTwice, api.Tag{Keys: []api.Key{{Name: "00"}, {Name: "00"}, bad}}, api.Tag{Variants: []string{"1996", "1996"}, Keys: []api.Key{bad}})
	}
	for _, s := range []string{"true", "a", "ab", "latN", "Latn", "abcdefghi", "-", "latn-", "-latn", "latn--latn", "latn-ab", "ab-latn", "latn_latn", "lat n", "lat\xff", "\u00e9tn", "latn-Latn", "TRUE", "latn-123456789", "\u212aat", "u", "latn-u-nu"} {
		bad := api.Key{Name: "nu", Value: s}
		add(api.ErrTag, api.Tag{Keys: []api.Key{bad}}, api.Tag{Keys: []api.Key{bad, bad}}, api.Tag{Keys: []api.Key{{Name: "nu"}, bad}}, api.Tag{Keys: []api.Key{{Name: "zz"}, bad}}, api.Tag{Keys: append(manyKeys(63, ""), bad)})
		add(api.ErrTwice, api.Tag{Keys: []api.Key{{Name: "nu"}, {Name: "nu"}, bad}})
	}
	add(api.ErrTwice, api.Tag{Variants: []string{"1996", "1996"}}, api.Tag{Variants: []string{"1901", "1996", "1996"}}, api.Tag{Variants: []string{"rozaj", "rozaj", "1996"}}, api.Tag{Variants: []string{"1996", "1996"}, Keys: manyKeys(65, "")})
	add(api.ErrTag, api.Tag{Variants: []string{"rozaj", "1996"}}, api.Tag{Variants: []string{"1996", "1901", "1901"}}, api.Tag{Variants: []string{"1996", "rozaj", "1996"}}, api.Tag{Variants: []string{"abcdef", "abcde"}}, api.Tag{Variants: []string{"rozaj", "1996"}, Keys: manyKeys(65, "")})
	add(api.ErrTwice, api.Tag{Keys: []api.Key{{Name: "nu"}, {Name: "nu"}}}, api.Tag{Keys: []api.Key{{Name: "nu", Value: "latn"}, {Name: "nu", Value: "arab"}}}, api.Tag{Keys: []api.Key{{Name: "nu"}, {Name: "nu"}, {Name: "ca"}}})
	add(api.ErrTag, api.Tag{Keys: []api.Key{{Name: "nu"}, {Name: "ca"}}}, api.Tag{Keys: []api.Key{{Name: "nu"}, {Name: "ca"}, {Name: "ca"}}}, api.Tag{Keys: []api.Key{{Name: "a0"}, {Name: "0a"}}}, api.Tag{Keys: []api.Key{{Name: "ca"}, {Name: "nu"}, {Name: "ca"}}})
	add(api.ErrFull, api.Tag{Variants: manyVariants(65)}, api.Tag{Variants: slices.Repeat([]string{"1996"}, 65)}, api.Tag{Variants: make([]string, 65)}, api.Tag{Variants: manyVariants(65), Keys: []api.Key{{}}}, api.Tag{Lang: "de", Variants: manyVariants(1000)})
	add(api.ErrFull, api.Tag{Keys: manyKeys(65, "")}, api.Tag{Keys: make([]api.Key, 65)}, api.Tag{Keys: slices.Repeat([]api.Key{{Name: "nu"}}, 65)}, api.Tag{Variants: manyVariants(64), Keys: manyKeys(100, "latn")})
	return wrong
}

// mustParse is the tag that Parse returns for a text.
func mustParse(t *testing.T, text string) api.Tag {
	t.Helper()
	got, at, e := tag.Parse(text)
	if at != 0 || e != api.OK {
		t.Fatalf("Parse(%.200q): error %d at %d", text, e, at)
	}
	return got
}

// TestSamples: the samples are what the tests take them for.
func TestSamples(t *testing.T) {
	random := rand.New(rand.NewSource(70))
	sizes := map[int]int{}
	for range 3000 {
		x := anyTag(random)
		sizes[len(x.Variants)]++
		sizes[len(x.Keys)+10]++
		if text := wantText(x); wantCheck(x) != api.OK || !same(tagOf(text), x) || !same(tagOf(spelled(random, x)), x) {
			t.Errorf("not valid, or with another text: %s", clip(x))
		}
		if x := keyless(random); len(x.Keys) > 0 || !isKeyless(wantText(x)) {
			t.Errorf("with keys, or not valid: %s", clip(x))
		}
		if all := anyPairs(random); wantPairs(all) != api.OK {
			t.Errorf("not valid: %s", clip(all))
		}
	}
	for _, size := range []int{0, 1, 4, 6, 10, 11, 15} {
		if sizes[size] < 50 {
			t.Errorf("only %d tags of size %d", sizes[size], size)
		}
	}
	if e := wantCheck(bigTag()); e != api.OK {
		t.Errorf("the big tag is not valid: %d", e)
	}
	for want, tags := range wrongTags() {
		for _, x := range tags {
			if e := wantCheck(x); e != want {
				t.Errorf("%s has error %d, not %d", clip(x), e, want)
			}
		}
	}
	for _, size := range []int{70, 71, 72, 73, 65535, 65536, 65537} {
		if x := longTag(size); len(wantText(x)) != size || wantCheck(x) != api.OK {
			t.Errorf("not a valid tag of %d bytes: %s", size, clip(x))
		}
	}
	if all := manyPairs(256); len(all) != 256 || wantPairs(all) != api.OK {
		t.Errorf("not 256 valid pairs: %s", clip(all))
	}
}
