package runes_test

import (
	"slices"
	"strings"
	"testing"

	"idiom/api"
	"idiom/runes"
)

var letters = []string{"a", "b", "c", "d", "e", "f", "g", "h", "i", "j", "k", "l"}

func TestFill(t *testing.T) {
	for _, x := range []struct {
		pattern string
		items   []string
		want    string
	}{
		{"", nil, ""},
		{"", letters, ""},
		{"plain", nil, "plain"},
		{"{1} of {0}", []string{"a", "b"}, "b of a"},
		{"{0}", []string{"a"}, "a"},
		{"{0}{0}{0}", []string{"ab"}, "ababab"},
		{"{0}{1}{2}{3}{4}{5}{6}{7}{8}{9}", letters, "abcdefghij"},
		{"{9}", letters[:10], "j"},
		{"{0}", []string{""}, ""},
		{"<{0}>", []string{""}, "<>"},
		{"}", nil, "}"},
		{"}}{0}}0}", letters, "}}a}0}"},
		{"0 1}", letters, "0 1}"},
		{"{0}{1}", []string{"{1}", "{0}"}, "{1}{0}"}, // items are not filled in turn
		{"{0}", []string{"{"}, "{"},
		{"{0}0}", []string{"{"}, "{0}"},
		{"'{0}' ''{1}''", letters, "'a' ''b''"},
		{"\\{0}", letters, "\\a"},
		{"\xff{0}\u20ac\x80\n\x00", []string{"\xc3"}, "\xff\xc3\u20ac\x80\n\x00"},
		{"\xc3{0}", []string{"\xb6"}, "\u00f6"},
		{"{0}", []string{"a", "{", "unused"}, "a"},
	} {
		if got, e := runes.Fill(x.pattern, x.items); got != x.want || e != api.OK {
			t.Errorf("Fill(%q, %q): %q %d, want %q", x.pattern, x.items, got, e, x.want)
		}
	}
}

func TestFillRefuses(t *testing.T) {
	for _, x := range []struct {
		pattern string
		items   []string
	}{
		{"{2}", letters[:2]},
		{"{1}", letters[:1]},
		{"{0}", nil},
		{"{0}", []string{}},
		{"{9}", letters[:9]},
		{"{0} {3}", letters[:3]},
		{"{", letters}, {"{0", letters}, {"a{", letters}, {"a{1", letters}, {"{}", letters}, {"{0}{", letters},
		{"{10}", letters}, {"{11}", letters}, {"{00}", letters}, {"{-1}", letters}, {"{+1}", letters}, {"{0x}", letters},
		{"{a}", letters}, {"{/}", letters}, {"{:}", letters}, {"{ }", letters}, {"{\x00}", letters}, {"{\xff}", letters},
		{"{ 0}", letters}, {"{0 }", letters}, {"{0)", letters}, {"{0{", letters}, {"{{0}", letters}, {"{{0}}", letters}, {"{0{1}}", letters},
		{"'{'", letters}, {"\\{", letters}, {"{{", letters},
		{"{\u0660}", letters}, {"{\uff10}", letters},
	} {
		if got, e := runes.Fill(x.pattern, x.items); got != "" || e != api.ErrFill {
			t.Errorf("Fill(%q, %q): %q %d, want %d", x.pattern, x.items, got, e, api.ErrFill)
		}
	}
	for b := range 256 {
		if b < '0' || b > '9' {
			if got, e := runes.Fill("{"+string([]byte{byte(b)})+"}", letters); got != "" || e != api.ErrFill {
				t.Errorf("Fill with the byte %#x in braces: %q %d", b, got, e)
			}
		}
	}
}

func TestFillOfLongTexts(t *testing.T) {
	longest := strings.Repeat("p", api.MaxText)
	whole := strings.Repeat("i", api.MaxOut)
	for _, x := range []struct {
		what    string
		pattern string
		items   []string
		size    int
		want    api.Errno
	}{
		{"the longest pattern", longest, nil, api.MaxText, api.OK},
		{"the longest pattern with an item", longest[3:] + "{0}", []string{"i"}, api.MaxText - 2, api.OK},
		{"a pattern that is too long", longest + "p", nil, 0, api.ErrLong},
		{"a pattern that is too long, with a result that is not", longest + "{0}", []string{""}, 0, api.ErrLong},
		{"a pattern that is too long, and wrong", "{" + longest, nil, 0, api.ErrLong},
		{"the longest pattern, and wrong at its end", longest[1:] + "{", nil, 0, api.ErrFill},
		{"an item longer than a pattern may be", "{0}", []string{longest + "p"}, api.MaxText + 1, api.OK},
		{"an unused item beyond all limits", "a", []string{whole + "i"}, 1, api.OK},
		{"an item that is the longest result", "{0}", []string{whole}, api.MaxOut, api.OK},
		{"an item that is too long", "{0}", []string{whole + "i"}, 0, api.ErrLong},
		{"an item and a byte that are the longest result", "{0}p", []string{whole[1:]}, api.MaxOut, api.OK},
		{"a byte and an item that are the longest result", "p{0}", []string{whole[1:]}, api.MaxOut, api.OK},
		{"a byte too many", "{0}p", []string{whole}, 0, api.ErrLong},
		{"a closing brace too many", "{0}}", []string{whole}, 0, api.ErrLong},
		{"an item too many", "p{0}", []string{whole}, 0, api.ErrLong},
		{"many items", "{0}{0}{1}{1}", []string{whole[:api.MaxOut/4], whole[:api.MaxOut/4]}, api.MaxOut, api.OK},
		{"many items, and one byte", "{0}{0}{1}{1}p", []string{whole[:api.MaxOut/4], whole[:api.MaxOut/4]}, 0, api.ErrLong},
		{"empty items at the limit", "{0}{1}{1}", []string{whole, ""}, api.MaxOut, api.OK},
		{"a wrong placeholder at the limit", "{0}{1}", []string{whole}, 0, api.ErrFill},
		{"a wrong placeholder ahead of a byte too many", "{0}{p", []string{whole}, 0, api.ErrFill},
		{"a byte too many ahead of a wrong placeholder", "{0}p{1}", []string{whole}, 0, api.ErrLong},
		{"an item too many ahead of a wrong placeholder", "{0}{0}{", []string{whole}, 0, api.ErrLong},
		{"a wrong placeholder ahead of an item too many", "{1}{0}{0}", []string{whole}, 0, api.ErrFill},
	} {
		got, e := runes.Fill(x.pattern, x.items)
		if e != x.want || len(got) != x.size {
			t.Errorf("%s: %d bytes, %d, want %d bytes, %d", x.what, len(got), e, x.size, x.want)
		}
	}
	most := strings.Repeat("{0}", api.MaxText/3)
	if got, e := runes.Fill(most, []string{strings.Repeat("i", 48)}); e != api.OK || len(got) != api.MaxText/3*48 {
		t.Errorf("Fill of many placeholders: %d bytes, %d", len(got), e)
	}
	if _, e := runes.Fill(most, []string{strings.Repeat("i", 49)}); e != api.ErrLong {
		t.Errorf("Fill of many placeholders beyond the limit: %d", e)
	}
}

// TestFillKeepsItems: the items are what they were, also beyond the length of the list.
func TestFillKeepsItems(t *testing.T) {
	items := slices.Clone(letters)
	for _, pattern := range []string{"{1} of {0}", "{2}", "{", "{9}{8}"} {
		runes.Fill(pattern, items[:3])
		runes.Fill(pattern, items)
	}
	if !slices.Equal(items, letters) {
		t.Errorf("the items after Fill: %q", items)
	}
}
