package tag

import (
	"strings"

	"idiom/api"
)

// The signs that parts consist of.
const (
	digits        = "0123456789"
	letters       = "ABCDEFGHIJKLMNOPQRSTUVWXYZabcdefghijklmnopqrstuvwxyz"
	alphanumerics = digits + letters
)

// Check tells whether t is valid.
func Check(t api.Tag) api.Errno {
	if !isCanonicalLang(t.Lang) || !isCanonicalScript(t.Script) || !isCanonicalRegion(t.Region) {
		return api.ErrTag
	}
	if errno := checkList(t.Variants, isCanonicalVariant, variantItself); errno != api.OK {
		return errno
	}
	return checkList(t.Keys, isCanonicalKey, keyName)
}

// checkAll checks tags, one after the other.
func checkAll(tags ...api.Tag) api.Errno {
	for _, t := range tags {
		if errno := Check(t); errno != api.OK {
			return errno
		}
	}
	return api.OK
}

// checkList checks the variants or the keys of a tag, which ascend by their names.
func checkList[E any](list []E, isCanonical func(E) bool, name func(E) string) api.Errno {
	if len(list) > api.MaxSpans {
		return api.ErrFull
	}
	for at, element := range list {
		if !isCanonical(element) {
			return api.ErrTag
		}
		if at == 0 {
			continue
		}
		switch strings.Compare(name(list[at-1]), name(element)) {
		case 0:
			return api.ErrTwice
		case 1:
			return api.ErrTag
		}
	}
	return api.OK
}

func variantItself(variant string) string {
	return variant
}

func keyName(key api.Key) string {
	return key.Name
}

func isCanonicalLang(s string) bool {
	return s == "" || isLang(s) && s == strings.ToLower(s) && s != rootText
}

func isCanonicalScript(s string) bool {
	return s == "" || isScript(s) && s == capitalized(s)
}

func isCanonicalRegion(s string) bool {
	return s == "" || isRegion(s) && s == strings.ToUpper(s)
}

func isCanonicalVariant(s string) bool {
	return isVariant(s) && s == strings.ToLower(s)
}

func isCanonicalKey(key api.Key) bool {
	return isKeyName(key.Name) && key.Name == strings.ToLower(key.Name) && isCanonicalValue(key.Value)
}

func isCanonicalValue(s string) bool {
	if s == "" {
		return true
	}
	for _, part := range strings.Split(s, separator) {
		if !isValuePart(part) {
			return false
		}
	}
	return s == strings.ToLower(s) && s != trueText
}

// The forms of the parts, in any case.

func isLang(s string) bool {
	return consists(s, letters, 2, 3)
}

func isScript(s string) bool {
	return consists(s, letters, 4, 4)
}

func isRegion(s string) bool {
	return consists(s, letters, 2, 2) || consists(s, digits, 3, 3)
}

func isVariant(s string) bool {
	return consists(s, alphanumerics, 5, 8) || consists(s, alphanumerics, 4, 4) && consists(s[:1], digits, 1, 1)
}

func isKeyName(s string) bool {
	return consists(s, alphanumerics, 2, 2)
}

func isValuePart(s string) bool {
	return consists(s, alphanumerics, 3, 8)
}

// consists tells whether s has from least to most bytes, all of them among these signs.
func consists(s, signs string, least, most int) bool {
	return least <= len(s) && len(s) <= most && strings.Trim(s, signs) == ""
}

// capitalized is a text of letters with a first one in upper case, the others in lower case.
func capitalized(s string) string {
	return strings.ToUpper(s[:1]) + strings.ToLower(s[1:])
}
