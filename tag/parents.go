package tag

import "idiom/api"

// heir is a tag of a chain, and its text.
type heir struct {
	tag  api.Tag
	text string
}

// Chain returns t, its parent, the parent of this one, and so on up to the root.
func Chain(t api.Tag, parents []api.Pair) ([]api.Tag, api.Errno) {
	if errno := Check(t); errno != api.OK {
		return nil, errno
	}
	byChild, errno := parentsByChild(parents)
	if errno != api.OK {
		return nil, errno
	}
	chain, errno := climb(t, byChild, map[string]int{}, 0)
	if errno != api.OK {
		return nil, errno
	}
	var tags []api.Tag
	for _, h := range chain {
		tags = append(tags, copyOf(h.tag))
	}
	return tags, api.OK
}

// Lookup returns the index of the first one of have that a wanted tag is or inherits from.
func Lookup(want, have []api.Tag, parents []api.Pair) (int, api.Errno) {
	if len(want) > api.MaxRows || len(have) > api.MaxRows {
		return 0, api.ErrFull
	}
	if errno := checkAll(want...); errno != api.OK {
		return 0, errno
	}
	if errno := checkAll(have...); errno != api.OK {
		return 0, errno
	}
	byChild, errno := parentsByChild(parents)
	if errno != api.OK {
		return 0, errno
	}
	best := rootText
	places := firstPlaces(have)
	met := map[string]int{}
	for round, t := range want {
		chain, errno := climb(t, byChild, met, round)
		if errno != api.OK {
			return 0, errno
		}
		if best == rootText {
			best = firstHad(chain, places)
		}
	}
	place, found := places[best]
	if !found {
		return 0, api.ErrNone
	}
	return place, api.OK
}

// firstPlaces is where tags first stand in a list, by their texts.
func firstPlaces(tags []api.Tag) map[string]int {
	places := map[string]int{}
	for place, t := range tags {
		text := textOf(t)
		if _, found := places[text]; !found {
			places[text] = place
		}
	}
	return places
}

// firstHad is the text of the first tag of a chain that has a place, or that of the root.
func firstHad(chain []heir, places map[string]int) string {
	for _, h := range chain {
		if _, found := places[h.text]; found {
			return h.text
		}
	}
	return rootText
}

// parentsByChild is the parents of pairs, by the texts of their children.
func parentsByChild(pairs []api.Pair) (map[string]api.Tag, api.Errno) {
	if len(pairs) > api.MaxRows {
		return nil, api.ErrFull
	}
	byChild := map[string]api.Tag{}
	for _, pair := range pairs {
		_, isChild := keyless(pair.Child)
		parent, isParent := keyless(pair.Parent)
		if !isChild || !isParent || pair.Child == rootText {
			return nil, api.ErrTag
		}
		if _, found := byChild[pair.Child]; found {
			return nil, api.ErrTwice
		}
		byChild[pair.Child] = parent
	}
	return byChild, api.OK
}

// keyless is the tag without keys whose text is s, if there is one.
func keyless(s string) (api.Tag, bool) {
	t, _, errno := Parse(s)
	return t, errno == api.OK && len(t.Keys) == 0 && textOf(t) == s
}

// climb returns the chain of t up to the first tag that the chain of an earlier round went through: from there on they are the same. In met is the round that first met a text.
func climb(t api.Tag, byChild map[string]api.Tag, met map[string]int, round int) ([]heir, api.Errno) {
	var chain []heir
	for {
		h := heir{tag: t, text: textOf(t)}
		if earlier, found := met[h.text]; found {
			if earlier == round {
				return nil, api.ErrTwice
			}
			return chain, api.OK
		}
		met[h.text] = round
		chain = append(chain, h)
		if h.text == rootText {
			return chain, api.OK
		}
		t = parentOf(h, byChild)
	}
}

// parentOf is the parent of a tag that is not the root.
func parentOf(h heir, byChild map[string]api.Tag) api.Tag {
	t := h.tag
	if len(t.Keys) > 0 {
		t.Keys = nil
		return t
	}
	if parent, found := byChild[h.text]; found {
		return parent
	}
	switch {
	case len(t.Variants) > 0:
		t.Variants = t.Variants[:len(t.Variants)-1]
	case t.Region != "":
		t.Region = ""
	case t.Script != "":
		t.Script = ""
	default:
		t.Lang = ""
	}
	return t
}
