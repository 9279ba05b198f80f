package choose_test

import (
	"slices"
	"strings"
	"testing"

	"idiom/api"
	"idiom/choose"
)

// TestNames: P6.1, each category and its name.
func TestNames(t *testing.T) {
	for cat, want := range map[int]string{api.Other: "other", api.Zero: "zero", api.One: "one", api.Two: "two", api.Few: "few", api.Many: "many"} {
		if name, e := choose.Name(cat); name != want || e != api.OK {
			t.Errorf("Name(%d): %q %d, want %q", cat, name, e, want)
		}
		if got, e := choose.ByName(want); got != cat || e != api.OK {
			t.Errorf("ByName(%q): %d %d, want %d", want, got, e, cat)
		}
	}
	for cat, word := range words {
		if name, e := choose.Name(cat); name != word || e != api.OK {
			t.Errorf("Name(%d): %q %d, want %q", cat, name, e, word)
		}
	}
}

// TestNoNames: P6.1, ErrCategory, with strings of any length.
func TestNoNames(t *testing.T) {
	for _, cat := range noCategories {
		if name, e := choose.Name(cat); name != "" || e != api.ErrCategory {
			t.Errorf("Name(%d): %q %d", cat, name, e)
		}
	}
	wrong := []string{"", " ", "some", "Other", "OTHER", "One", "ones", "on", "onee", "one ", " one", "one:", "on\u0435", "\uff4fne", "zero\x00", "0", "2", "n", "oneother", "all", "\xff", repeat("one", 1<<16), repeat("many", 1<<15)}
	for _, word := range words {
		wrong = append(wrong, strings.ToUpper(word), word[1:], word[:len(word)-1], word+"s", word+" ", "\t"+word)
	}
	for _, s := range wrong {
		if cat, e := choose.ByName(s); cat != 0 || e != api.ErrCategory {
			t.Errorf("ByName(%.50q): %d %d", s, cat, e)
		}
	}
}

// TestCats: P6.7, Other and the categories of the rules.
func TestCats(t *testing.T) {
	for want, texts := range map[string][]string{
		"other":                       {"", " ", "other:", "other: @integer 1"},
		"other one":                   {"one: i = 1 and v = 0; other:", "one: n = 1"},
		"other zero":                  {"zero: n = 0"},
		"other many":                  {"many: n = 0;other:"},
		"other one few":               {"few: n = 3; one: n = 1", "one: n = 1; few: n = 3; other:"},
		"other zero one two few many": {"many: n = 5; few: n = 4; two: n = 2; one: n = 1; zero: n = 0; other:", "two: n = 2; zero: n = 0; many: n = 5; one: n = 1; few: n = 3"},
	} {
		for _, text := range texts {
			cats, e := choose.Cats(mustParse(t, text))
			var got []string
			for _, cat := range cats {
				got = append(got, words[cat])
			}
			if strings.Join(got, " ") != want || e != api.OK || !slices.IsSorted(cats) {
				t.Errorf("Cats of %q: %d %d, want %s", text, cats, e, want)
			}
		}
	}
}

// TestCatsOfWrongSets: P6.7, the error of Check.
func TestCatsOfWrongSets(t *testing.T) {
	for want, sets := range wrongSets() {
		for _, set := range sets {
			if cats, e := choose.Cats(set); len(cats) > 0 || e != want {
				t.Errorf("Cats(%s): %d %d, want error %d", clip(set), cats, e, want)
			}
		}
	}
}

// TestRange: P6.8, the first row of both categories, or the second category.
func TestRange(t *testing.T) {
	rows := []api.RangeRow{{From: api.One, To: api.Other, Cat: api.Few}, {From: api.Zero, To: api.Zero, Cat: api.Many}, {From: api.One, To: api.Other, Cat: api.Two}, {From: api.Other, To: api.Many, Cat: api.Other}, {From: api.Many, To: api.Other, Cat: api.Zero}}
	for _, x := range []struct {
		rows           []api.RangeRow
		from, to, want int
	}{
		{rows[:1], api.One, api.Other, api.Few},
		{rows[:1], api.Other, api.One, api.One},
		{rows, api.One, api.Other, api.Few},
		{rows[1:], api.One, api.Other, api.Two},
		{rows, api.Zero, api.Zero, api.Many},
		{rows, api.Other, api.Many, api.Other},
		{rows, api.Many, api.Other, api.Zero},
		{rows, api.Zero, api.One, api.One},
		{rows, api.One, api.Zero, api.Zero},
		{rows, api.One, api.One, api.One},
		{nil, api.Few, api.Many, api.Many},
		{nil, api.Many, api.Other, api.Other},
		{append(slices.Repeat(rows[1:2], 255), rows[0]), api.One, api.Other, api.Few},
		{slices.Repeat(rows[:1], 256), api.One, api.Other, api.Few},
	} {
		if got, e := choose.Range(x.rows, x.from, x.to); got != x.want || e != api.OK {
			t.Errorf("Range(%s, %d, %d): %d %d, want %d", clip(x.rows), x.from, x.to, got, e, x.want)
		}
	}
	for from := range 6 {
		for to := range 6 {
			for cat := range 6 {
				row := api.RangeRow{From: from, To: to, Cat: cat}
				if got, e := choose.Range([]api.RangeRow{row}, from, to); got != cat || e != api.OK {
					t.Errorf("Range(%v, %d, %d): %d %d", row, from, to, got, e)
				}
				if got, e := choose.Range([]api.RangeRow{row}, to, from); from != to && (got != from || e != api.OK) {
					t.Errorf("Range(%v, %d, %d): %d %d", row, to, from, got, e)
				}
			}
		}
	}
}

// TestRangeErrors: P6.8, ErrFull, then ErrCategory.
func TestRangeErrors(t *testing.T) {
	refused := func(want api.Errno, from, to int, rows ...api.RangeRow) {
		t.Helper()
		if got, e := choose.Range(rows, from, to); got != 0 || e != want {
			t.Errorf("Range(%s, %d, %d): %d %d, want error %d", clip(rows), from, to, got, e, want)
		}
	}
	right := api.RangeRow{From: api.One, To: api.Two, Cat: api.Few}
	refused(api.ErrFull, api.One, api.Two, slices.Repeat([]api.RangeRow{right}, 257)...)
	for _, cat := range noCategories {
		refused(api.ErrCategory, cat, api.Two)
		refused(api.ErrCategory, api.One, cat)
		refused(api.ErrCategory, cat, cat)
		refused(api.ErrCategory, cat, api.Two, right)
		refused(api.ErrCategory, api.One, cat, right)
		for _, row := range []api.RangeRow{{From: cat, To: api.Two, Cat: api.Few}, {From: api.One, To: cat, Cat: api.Few}, {From: api.One, To: api.Two, Cat: cat}, {From: cat, To: cat, Cat: cat}} {
			refused(api.ErrCategory, api.One, api.Two, row)
			refused(api.ErrCategory, api.One, api.Two, right, row)
			refused(api.ErrCategory, api.Many, api.Many, row, right)
			refused(api.ErrCategory, cat, cat, row)
			refused(api.ErrFull, cat, cat, append(slices.Repeat([]api.RangeRow{right}, 256), row)...)
			refused(api.ErrFull, api.One, api.Two, slices.Repeat([]api.RangeRow{row}, 300)...)
		}
	}
}
