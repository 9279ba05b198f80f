package choose

import (
	"strings"

	"idiom/api"
	"idiom/rule"
	"idiom/runes"
)

// The signs behind the name of a category, and between two rules.
const (
	nameMark = ":"
	ruleMark = ";"
)

// Parse returns the set with the text s; or the offset of what it rejects.
func Parse(s string) (api.Set, int, api.Errno) {
	if len(s) > api.MaxText {
		return api.Set{}, 0, api.ErrLong
	}
	if spaceSize(s) == len(s) {
		return api.Set{}, 0, api.OK
	}
	var set api.Set
	begin := 0
	for _, text := range strings.Split(s, ruleMark) {
		named, at, errno := parseNamed(text, set.Rules)
		if errno != api.OK {
			return api.Set{}, begin + at, errno
		}
		set.Rules = append(set.Rules, named)
		begin += len(text) + len(ruleMark)
	}
	return set, 0, api.OK
}

// parseNamed parses the text of a rule and its name, behind the earlier rules.
func parseNamed(s string, earlier []api.Named) (api.Named, int, api.Errno) {
	begin := spaceSize(s)
	end := begin + nameSize(s[begin:])
	if begin == end {
		return api.Named{}, begin, api.ErrSet
	}
	cat, errno := ByName(s[begin:end])
	if errno != api.OK {
		return api.Named{}, begin, errno
	}
	if errno := checkPlace(cat, earlier); errno != api.OK {
		return api.Named{}, begin, errno
	}
	mark := end + spaceSize(s[end:])
	text, found := strings.CutPrefix(s[mark:], nameMark)
	if !found {
		return api.Named{}, mark, api.ErrSet
	}
	r, at, errno := rule.Parse(text)
	if errno != api.OK {
		return api.Named{}, mark + len(nameMark) + at, errno
	}
	if !hasListsFor(cat, r) {
		return api.Named{}, begin, api.ErrSet
	}
	return api.Named{Cat: cat, Rule: r}, 0, api.OK
}

// Print returns the text of set. It needs no look at its size: six rules, none longer than MaxText, are below MaxOut.
func Print(set api.Set) (string, api.Errno) {
	if errno := Check(set); errno != api.OK {
		return "", errno
	}
	var texts []string
	for _, named := range set.Rules {
		text, errno := rule.Print(named.Rule)
		if errno != api.OK {
			return "", errno
		}
		if text != "" {
			text = " " + text
		}
		texts = append(texts, names[named.Cat]+nameMark+text)
	}
	return strings.Join(texts, ruleMark+" "), api.OK
}

// spaceSize is how many bytes of white space s begins with.
func spaceSize(s string) int {
	return len(s) - len(strings.TrimLeftFunc(s, runes.Space))
}

// nameSize is how many letters a to z s begins with.
func nameSize(s string) int {
	return len(s) - len(strings.TrimLeftFunc(s, isLetter))
}

func isLetter(r rune) bool {
	return 'a' <= r && r <= 'z'
}
