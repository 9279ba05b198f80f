package operand_test

import (
	"math/rand"
	"slices"
	"strconv"
	"testing"

	"idiom/api"
	"idiom/decimal"
	"idiom/operand"
)

// The consequences of the chapter, in its words, by the calls alone.

// get is what Get returns for valid operands.
func get(t *testing.T, o api.Ops, letter string) api.Dec {
	t.Helper()
	d, e := operand.Get(o, letter)
	if e != api.OK {
		t.Errorf("Get(%v, %s): error %d", o, letter, e)
	}
	return d
}

// in is what In returns for a valid relation.
func in(t *testing.T, o api.Ops, r api.Rel) bool {
	t.Helper()
	held, e := operand.In(o, r)
	if e != api.OK {
		t.Errorf("In(%v, %v): error %d", o, r, e)
	}
	return held
}

// ofAll is the operands that Of returns for all samples without an exponent.
func ofAll(t *testing.T) []api.Ops {
	t.Helper()
	var all []api.Ops
	for _, text := range samples() {
		all = append(all, mustOf(t, text))
	}
	return all
}

// TestNumberShown: P4.5, that the number shown alone counts.
func TestNumberShown(t *testing.T) {
	times := 0
	for _, text := range samples() {
		for exp := range 41 {
			shown, e := decimal.Shift(dec(text), exp)
			got, e2 := operand.Of(dec(text), exp)
			if e != e2 {
				t.Errorf("Of(%s, %d): error %d, of Shift %d", text, exp, e2, e)
			}
			if e != api.OK {
				continue
			}
			times++
			want, e := operand.Of(shown, 0)
			if want.E != 0 || got.E != exp {
				t.Errorf("Of(%s, %d): E is %d, without the exponent %d", text, exp, got.E, want.E)
			}
			want.E = exp
			if got != want || e != api.OK {
				t.Errorf("Of(%s, %d): %v, of the number shown %v %d", text, exp, got, want, e)
			}
		}
	}
	if times < 5000 {
		t.Errorf("tried only %d times", times)
	}
}

// TestNegative: P4.5, the operands of a negative number.
func TestNegative(t *testing.T) {
	times := 0
	for _, text := range samples() {
		d := dec(text)
		if !d.Neg {
			continue
		}
		times++
		for exp := range 41 {
			got, e := operand.Of(d, exp)
			want, e2 := operand.Of(dec(text[1:]), exp)
			if got != want || e != e2 {
				t.Errorf("Of(%s, %d): %v %d, without the sign %v %d", text, exp, got, e, want, e2)
			}
		}
	}
	if times < 100 {
		t.Errorf("tried only %d times", times)
	}
}

// TestBetweenOperands: P4.6, n is i plus f with V fraction digits, and i plus t with W.
func TestBetweenOperands(t *testing.T) {
	for _, o := range ofAll(t) {
		for _, x := range []struct {
			letter string
			places int
		}{{"f", o.V}, {"t", o.W}} {
			digits := get(t, o, x.letter).Int
			if x.places == 0 {
				if digits != "0" {
					t.Errorf("%s of %v, which has no fraction: %s", x.letter, o, digits)
				}
				continue
			}
			total := api.Dec{Int: get(t, o, "i").Int, Frac: repeat("0", max(0, x.places-len(digits))) + digits}
			if order, e := decimal.Compare(get(t, o, "n"), total); len(total.Frac) != x.places || order != 0 || e != api.OK {
				t.Errorf("i plus %s of %v: %v", x.letter, o, total)
			}
		}
		if o.V < o.W || o.V == o.W && o.F != o.T {
			t.Errorf("V and W, F and T do not fit: %v", o)
		}
	}
}

// TestTrailingZeros: P4.6, that zeros at the end of the fraction change only V and F.
func TestTrailingZeros(t *testing.T) {
	times := 0
	for _, text := range samples() {
		d := dec(text)
		for places := len(d.Frac); places <= 40-len(d.Int); places += 3 {
			padded, e := decimal.Pad(d, places)
			if e != api.OK {
				t.Fatalf("Pad(%s, %d): error %d", text, places, e)
			}
			times++
			got, want := mustOf(t, textOf(padded)), mustOf(t, text)
			if got.V != places || len(got.F) < len(want.F) {
				t.Errorf("Of(%s, 0): V is %d, F is %s", textOf(padded), got.V, got.F)
			}
			got.V, got.F = want.V, want.F
			if got != want {
				t.Errorf("Of(%s, 0) parts from Of(%s, 0) in more than V and F", textOf(padded), text)
			}
		}
	}
	if times < 3000 {
		t.Errorf("tried only %d times", times)
	}
}

// TestListsAndRanges: P4.7, of Within and Not, and of each span alone.
func TestListsAndRanges(t *testing.T) {
	random := rand.New(rand.NewSource(7))
	fractions, integers := 0, 0
	for at, o := range ofAll(t) {
		for _, r := range relations(letters[at%len(letters)]) {
			if r.Not || r.Within {
				continue
			}
			within, without := r, r
			within.Within, without.Not = true, true
			held := in(t, o, r)
			if held && !in(t, o, within) {
				t.Errorf("in, but not within: %v, %v", o, r)
			}
			x, e := operand.Mod(o, r.Op, r.Mod)
			if e != api.OK {
				t.Errorf("Mod(%v, %s, %s): error %d", o, r.Op, r.Mod, e)
			}
			if x.Frac != "" {
				fractions++
			} else if integers++; held != in(t, o, within) {
				t.Errorf("in and within part for an integer: %v, %v", o, r)
			}
			withoutWithin := without
			withoutWithin.Within = true
			if held == in(t, o, without) || in(t, o, within) == in(t, o, withoutWithin) {
				t.Errorf("with Not, not the opposite: %v, %v", o, r)
			}
			for _, whole := range []api.Rel{r, within} {
				alone := slices.ContainsFunc(whole.List, func(s api.Span) bool {
					single := whole
					single.List = []api.Span{s}
					return in(t, o, single)
				})
				mixed := whole
				mixed.List = slices.Clone(whole.List)
				random.Shuffle(len(mixed.List), func(i, j int) { mixed.List[i], mixed.List[j] = mixed.List[j], mixed.List[i] })
				if alone != in(t, o, whole) || alone != in(t, o, mixed) {
					t.Errorf("the spans alone, or in another order, part from the list: %v, %v, %v", o, whole, mixed)
				}
			}
		}
	}
	if fractions < 500 || integers < 5000 {
		t.Errorf("tried only %d fractions and %d integers", fractions, integers)
	}
}

// TestModuloOne: P4.7, n modulo 1 is 0 exactly if W is 0.
func TestModuloOne(t *testing.T) {
	whole := 0
	for _, o := range ofAll(t) {
		rest, e := operand.Mod(o, "n", "1")
		isZero := rest == api.Dec{Int: "0"}
		if e != api.OK || isZero != (o.W == 0) {
			t.Errorf("Mod(%v, n, 1): %v %d", o, rest, e)
		}
		if held := in(t, o, api.Rel{Op: "n", Mod: "1", List: spans("0")}); held != (o.W == 0) {
			t.Errorf("n modulo 1 is 0 for %v: %v", o, held)
		}
		if isZero {
			whole++
		}
	}
	if whole < 30 {
		t.Errorf("tried only %d integers", whole)
	}
}

// TestInjective: P4.8, and that the fields of an answer are valid operands.
func TestInjective(t *testing.T) {
	texts := map[api.Ops]string{}
	try := func(text string, exp int) {
		t.Helper()
		o, e := operand.Of(dec(text), exp)
		if e == api.ErrBound {
			return
		}
		if e2 := operand.Check(o); e != api.OK || e2 != api.OK {
			t.Errorf("Of(%s, %d): %v, errors %d and %d", text, exp, o, e, e2)
		}
		o.E = 0
		shown := wantShown(text, exp)
		if other, ok := texts[o]; ok && other != shown {
			t.Errorf("%s and %s have the same operands: %v", other, shown, o)
		}
		texts[o] = shown
	}
	for _, text := range samples() {
		for exp := range 41 {
			try(text, exp)
		}
	}
	for whole := range 120 {
		for places := range 4 {
			for n := range []int{1, 10, 100, 1000}[places] {
				digits := repeat("0", places) + strconv.Itoa(n)
				if digits = digits[len(digits)-places:]; places > 0 {
					digits = "." + digits
				}
				try(strconv.Itoa(whole)+digits, 0)
			}
		}
	}
	if len(texts) < 120*1111 {
		t.Errorf("only %d operands", len(texts))
	}
}
