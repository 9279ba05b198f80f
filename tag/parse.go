package tag

import (
	"slices"
	"strings"

	"idiom/api"
)

// reader goes through the parts of a text.
type reader struct {
	parts []string // those that are left
	at    int      // the offset of the first one of them
}

// Parse returns the tag that s denotes; or the offset of what it rejects.
func Parse(s string) (api.Tag, int, api.Errno) {
	if len(s) > api.MaxText {
		return api.Tag{}, 0, api.ErrLong
	}
	if strings.EqualFold(s, "root") { // R, O and T alone fold to its letters
		return api.Tag{}, 0, api.OK
	}
	r := reader{parts: strings.Split(strings.ReplaceAll(s, "_", separator), separator)}
	t, errno := r.readTag()
	if errno != api.OK {
		return api.Tag{}, min(r.at, len(s)), errno
	}
	return copyOf(t), 0, api.OK // the parts lie in s
}

// part is the part that comes next; it is empty, too, if there is none.
func (r *reader) part() string {
	if len(r.parts) == 0 {
		return ""
	}
	return r.parts[0]
}

// take returns the part that comes next, and goes behind it.
func (r *reader) take() string {
	part := r.parts[0]
	r.parts = r.parts[1:]
	r.at += len(part) + len(separator)
	return part
}

// readTag reads all parts. The reader stands at what is rejected.
func (r *reader) readTag() (api.Tag, api.Errno) {
	var t api.Tag
	if !isLang(r.part()) {
		return t, api.ErrTag
	}
	t.Lang = strings.ToLower(r.take())
	if t.Lang == rootText {
		t.Lang = ""
	}
	if isScript(r.part()) {
		t.Script = capitalized(r.take())
	}
	if isRegion(r.part()) {
		t.Region = strings.ToUpper(r.take())
	}
	var errno api.Errno
	if t.Variants, errno = r.readVariants(); errno != api.OK {
		return t, errno
	}
	if t.Keys, errno = r.readKeys(); errno != api.OK {
		return t, errno
	}
	if len(r.parts) > 0 {
		return t, api.ErrTag
	}
	return t, api.OK
}

// readVariants reads the variants that come next, and sorts them.
func (r *reader) readVariants() ([]string, api.Errno) {
	var variants []string
	for isVariant(r.part()) {
		variant := strings.ToLower(r.part())
		if errno := checkRoom(variants, variant); errno != api.OK {
			return nil, errno
		}
		variants = append(variants, variant)
		r.take()
	}
	slices.Sort(variants)
	return variants, api.OK
}

// readKeys reads the keys that come next behind their mark, if it does, and sorts them.
func (r *reader) readKeys() ([]api.Key, api.Errno) {
	if !strings.EqualFold(r.part(), keysMark) {
		return nil, api.OK
	}
	r.take()
	if !isKeyName(r.part()) {
		return nil, api.ErrTag
	}
	var keys []api.Key
	var names []string
	for isKeyName(r.part()) {
		name := strings.ToLower(r.part())
		if errno := checkRoom(names, name); errno != api.OK {
			return nil, errno
		}
		names = append(names, name)
		r.take()
		keys = append(keys, api.Key{Name: name, Value: r.readValue()})
	}
	slices.SortFunc(keys, func(a, b api.Key) int {
		return strings.Compare(a.Name, b.Name)
	})
	return keys, api.OK
}

// readValue reads the parts of a value that come next.
func (r *reader) readValue() string {
	var parts []string
	for isValuePart(r.part()) {
		parts = append(parts, r.take())
	}
	value := strings.ToLower(strings.Join(parts, separator))
	if value == trueText {
		return ""
	}
	return value
}

// checkRoom checks whether a name may stand beside those that were read before.
func checkRoom(names []string, name string) api.Errno {
	switch {
	case slices.Contains(names, name):
		return api.ErrTwice
	case len(names) == api.MaxSpans:
		return api.ErrFull
	}
	return api.OK
}
