package rule

import (
	"strings"

	"idiom/api"
)

// Print returns the canonical text of r.
func Print(r api.Rule) (string, api.Errno) {
	if errno := Check(r); errno != api.OK {
		return "", errno
	}
	var parts []string
	if len(r.Or) > 0 {
		parts = append(parts, textOfLists(r.Or))
	}
	if len(r.Ints) > 0 {
		parts = append(parts, intsMark+" "+textOfSamples(r.Ints, r.IntMore))
	}
	if len(r.Decs) > 0 {
		parts = append(parts, decsMark+" "+textOfSamples(r.Decs, r.DecMore))
	}
	text := strings.Join(parts, " ")
	if len(text) > api.MaxText {
		return "", api.ErrLong
	}
	return text, api.OK
}

func textOfLists(or [][]api.Rel) string {
	var lists []string
	for _, and := range or {
		var rels []string
		for _, rel := range and {
			rels = append(rels, textOfRelation(rel))
		}
		lists = append(lists, strings.Join(rels, " and "))
	}
	return strings.Join(lists, " or ")
}

func textOfRelation(rel api.Rel) string {
	text := rel.Op
	if rel.Mod != "" {
		text += " % " + rel.Mod
	}
	var spans []string
	for _, span := range rel.List {
		spans = append(spans, textOfRange(span.Lo, "..", span.Hi))
	}
	return text + " " + textOfComparison(rel.Not, rel.Within) + " " + strings.Join(spans, ",")
}

func textOfComparison(not, within bool) string {
	switch {
	case not && within:
		return "not within"
	case within:
		return "within"
	case not:
		return "!="
	}
	return "="
}

func textOfSamples(samples []api.Sample, more bool) string {
	var texts []string
	for _, sample := range samples {
		texts = append(texts, textOfRange(sample.Lo, "~", sample.Hi))
	}
	if more {
		texts = append(texts, moreMark)
	}
	return strings.Join(texts, ", ")
}

func textOfRange(lo, mark, hi string) string {
	if lo == hi {
		return lo
	}
	return lo + mark + hi
}
