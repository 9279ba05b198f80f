package operand

import (
	"idiom/api"
	"idiom/decimal"
)

// Mod returns what the number by leaves of an operand, or the operand itself if by is empty.
func Mod(o api.Ops, letter, by string) (api.Dec, api.Errno) {
	x, errno := Get(o, letter)
	if errno != api.OK || by == "" {
		return x, errno
	}
	rest, errno := decimal.Rem(x, whole(by))
	if errno != api.OK { // by is no number, or 0
		return api.Dec{}, api.ErrOperand
	}
	return rest, api.OK
}

// In tells whether a relation holds.
func In(o api.Ops, r api.Rel) (bool, api.Errno) {
	x, errno := Mod(o, r.Op, r.Mod)
	if errno != api.OK {
		return false, errno
	}
	if !isList(r.List) {
		return false, api.ErrOperand
	}
	return isIn(x, r) != r.Not, api.OK
}

// whole takes a string for the integer part of a decimal. The decimal is valid exactly if the string is a number.
func whole(s string) api.Dec {
	return api.Dec{Int: s}
}

func isList(list []api.Span) bool {
	if len(list) == 0 || len(list) > api.MaxSpans {
		return false
	}
	for _, span := range list {
		order, errno := decimal.Compare(whole(span.Lo), whole(span.Hi))
		if errno != api.OK || order > 0 {
			return false
		}
	}
	return true
}

// isIn tells whether x, a result of Mod, is in at least one span of r, whose list is valid.
func isIn(x api.Dec, r api.Rel) bool {
	if !r.Within && x.Frac != "" { // no zeros end it: N has none there, and a whole modulus leaves the fraction as it is
		return false
	}
	for _, span := range r.List {
		if isAtMost(whole(span.Lo), x) && isAtMost(x, whole(span.Hi)) {
			return true
		}
	}
	return false
}

func isAtMost(a, b api.Dec) bool {
	order, _ := decimal.Compare(a, b)
	return order <= 0
}
