package choose

import (
	"strconv"
	"strings"

	"idiom/api"
	"idiom/decimal"
	"idiom/operand"
	"idiom/rule"
)

// Holds tells whether r holds for the operands o.
func Holds(r api.Rule, o api.Ops) (bool, api.Errno) {
	if errno := rule.Check(r); errno != api.OK {
		return false, errno
	}
	if errno := operand.Check(o); errno != api.OK {
		return false, errno
	}
	return first([]api.Named{{Rule: r}}, o) == 0, api.OK
}

// Pick returns the category of d, shown with a compact exponent.
func Pick(set api.Set, d api.Dec, exp int) (int, api.Errno) {
	if errno := Check(set); errno != api.OK {
		return 0, errno
	}
	return pick(set.Rules, d, exp)
}

// Misses returns the samples that have another category than their rule.
func Misses(set api.Set) ([]api.Miss, api.Errno) {
	if errno := Check(set); errno != api.OK {
		return nil, errno
	}
	var misses []api.Miss
	for _, named := range set.Rules {
		ints, decs, errno := rule.Spread(named.Rule)
		if errno != api.OK {
			return nil, errno
		}
		for _, text := range append(ints, decs...) {
			d, exp := numberOf(text)
			got, errno := pick(set.Rules, d, exp)
			if errno != api.OK {
				return nil, errno
			}
			if got != named.Cat {
				misses = append(misses, api.Miss{Cat: named.Cat, Text: text, Got: got})
			}
		}
	}
	return misses, api.OK
}

// numberOf returns the decimal and the exponent of a sample.
func numberOf(text string) (api.Dec, int) {
	digits, power, _ := strings.Cut(text, "c")
	d, _ := decimal.Parse(digits)
	exp, _ := strconv.Atoi(power) // 0, if there is none
	return d, exp
}

// pick is Pick for the rules of a valid set.
func pick(rules []api.Named, d api.Dec, exp int) (int, api.Errno) {
	o, errno := operand.Of(d, exp)
	if errno != api.OK {
		return 0, errno
	}
	at := first(rules, o)
	if at == len(rules) {
		return api.Other, api.OK
	}
	return rules[at].Cat, api.OK
}

// first returns the index of the first one of valid rules that holds for valid operands, or the number of rules if none does.
func first(rules []api.Named, o api.Ops) int {
	at := 0
tries:
	for ; at < len(rules); at++ {
		or := rules[at].Rule.Or
		if len(or) == 0 {
			break
		}
		for _, and := range or {
			if allHold(and, o) {
				break tries
			}
		}
	}
	return at
}

func allHold(and []api.Rel, o api.Ops) bool {
	for _, rel := range and {
		if holds, _ := operand.In(o, rel); !holds { // no error: both are valid
			return false
		}
	}
	return true
}
