package operand_test

import (
	"slices"
	"testing"

	"idiom/api"
	"idiom/operand"
)

// numbers is some that may stand as a modulus.
var numbers = []string{"1", "2", "3", "7", "10", "100", "1000", "1000000", "99999999999", repeat("9", 20), repeat("9", 40), "1" + repeat("0", 39), "18446744073709551616"}

// TestMod: P4.3, written out.
func TestMod(t *testing.T) {
	for _, x := range []struct{ d, letter, by, want string }{
		{"21.5", "n", "10", "1.5"}, {"21.5", "n", "", "21.5"}, {"21.5", "i", "10", "1"}, {"21.5", "i", "", "21"}, {"21.5", "f", "10", "5"}, {"21.5", "f", "5", "0"}, {"21.5", "v", "1", "0"}, {"21.5", "v", "2", "1"}, {"21.5", "e", "7", "0"}, {"21.5", "c", "7", "0"},
		{"21.5", "n", "1", "0.5"}, {"21.5", "n", "21", "0.5"}, {"21.5", "n", "22", "21.5"}, {"-21.5", "n", "10", "1.5"}, {"21.50", "n", "10", "1.5"}, {"20.50", "n", "10", "0.5"}, {"20.00", "n", "10", "0"}, {"0.05", "n", "3", "0.05"}, {"21.0150", "f", "100", "50"}, {"21.0150", "t", "100", "15"}, {"21.0150", "w", "3", "0"}, {"21.0150", "v", "3", "1"},
		{"112", "i", "100", "12"}, {"1000000", "i", "1000000", "0"}, {"0", "n", repeat("9", 40), "0"}, {repeat("9", 40), "n", repeat("9", 40), "0"}, {repeat("9", 40), "n", "7", wantMod(repeat("9", 40), "7")}, {repeat("9", 20) + "." + repeat("9", 20), "n", "10", "9." + repeat("9", 20)}, {"0." + repeat("1", 39), "n", "1" + repeat("0", 39), "0." + repeat("1", 39)}, {"0." + repeat("0", 38) + "1", "n", "1", "0." + repeat("0", 38) + "1"},
	} {
		if got, e := operand.Mod(mustOf(t, x.d), x.letter, x.by); got != dec(x.want) || e != api.OK {
			t.Errorf("Mod(%s, %s, %q): %v %d, want %s", x.d, x.letter, x.by, got, e, x.want)
		}
	}
}

// TestModOfSamples: P4.3.
func TestModOfSamples(t *testing.T) {
	for _, o := range operands() {
		for _, letter := range letters {
			for _, by := range append(numbers, "") {
				want := wantMod(wantGet(o, letter), by)
				if got, e := operand.Mod(o, letter, by); got != dec(want) || e != api.OK {
					t.Errorf("Mod(%v, %s, %q): %v %d, want %s", o, letter, by, got, e, want)
				}
			}
		}
	}
}

// TestModErrors: P4.3.
func TestModErrors(t *testing.T) {
	refused := func(o api.Ops, letter, by string) {
		t.Helper()
		if got, e := operand.Mod(o, letter, by); got != (api.Dec{}) || e != api.ErrOperand {
			t.Errorf("Mod(%s, %.60q, %.60q): %v %d", clip(o), letter, by, got, e)
		}
	}
	for _, by := range append(wrongNumbers(), "0") {
		for _, letter := range letters {
			refused(mustOf(t, "21.5"), letter, by)
		}
		refused(mustOf(t, "0"), "n", by)
		refused(mustOf(t, "0"), "x", by)
	}
	for _, by := range append(numbers, "") {
		for _, letter := range wrongLetters {
			refused(mustOf(t, "21.5"), letter, by)
		}
		for _, o := range notValid() {
			refused(o, "n", by)
			refused(o, "e", by)
		}
	}
}

// TestIn: P4.4, written out. The columns: the relation, without Within and Not; with Within; with Not; with both.
func TestIn(t *testing.T) {
	all, none, within := [4]bool{true, true, false, false}, [4]bool{false, false, true, true}, [4]bool{false, true, true, false}
	for _, x := range []struct {
		d, op, mod, list string
		want             [4]bool
	}{
		{"21.5", "n", "10", "1..2", within},
		{"21.5", "n", "10", "2..3", none}, {"21.5", "n", "10", "1", none}, {"21.5", "n", "10", "0..1", none}, {"21.5", "n", "", "21..22", within}, {"21.5", "n", "", "1..2", none}, {"21.5", "i", "10", "1..2", all}, {"21.5", "f", "", "5", all}, {"21.5", "f", "10", "4..6", all}, {"21.5", "v", "", "1", all}, {"21.5", "v", "", "0", none}, {"21.5", "e", "", "0", all},
		{"1", "n", "", "1", all}, {"1.00", "n", "", "1", all}, {"-1", "n", "", "1", all}, {"1", "n", "", "0", none}, {"1", "n", "", "2", none}, {"1", "n", "", "1..3", all}, {"3.0", "n", "", "1..3", all}, {"2", "n", "", "1..3", all}, {"4", "n", "", "1..3", none}, {"0", "n", "", "1..3", none}, {"0", "n", "", "0", all}, {"0.00", "n", "", "0", all}, {"0.00", "n", "1", "0", all}, {"0.5", "n", "", "0..1", within}, {"0.5", "n", "", "0", none}, {"3.001", "n", "", "1..3", none}, {"0.999", "n", "", "1..3", none},
		{"5", "n", "", "1,3,5", all}, {"4", "n", "", "1,3,5", none}, {"4", "n", "", "1..2,4..6", all}, {"3", "n", "", "1..2,4..6", none}, {"4", "n", "", "5,3..4,1", all}, {"4.5", "n", "", "1,4..5", within}, {"2", "n", "", "2,2,2", all}, {"2", "n", "", "1..3,2..4", all}, {"10", "n", "", "9..10", all}, {"9", "n", "", "10..11", none}, {"100", "n", "", "9..10", none},
		{"12", "i", "10", "2..4", all}, {"12", "i", "100", "12..14", all}, {"22", "i", "100", "12..14", none}, {"1000000", "i", "1000000", "0", all}, {repeat("9", 40), "n", "", repeat("9", 40), all}, {repeat("9", 40), "n", "", "0.." + repeat("9", 40), all}, {repeat("9", 40), "n", "", "0.." + repeat("9", 39), none}, {"0." + repeat("9", 39), "n", "", "0.." + repeat("9", 40), within}, {"0." + repeat("9", 39), "n", "", "1.." + repeat("9", 40), none},
	} {
		for at, want := range x.want {
			r := api.Rel{Op: x.op, Mod: x.mod, Not: at >= 2, Within: at%2 == 1, List: spans(x.list)}
			if got, e := operand.In(mustOf(t, x.d), r); got != want || e != api.OK {
				t.Errorf("In(%s, %v): %v %d", x.d, r, got, e)
			}
		}
	}
	o, _ := operand.Of(dec("1.2"), 6)
	for _, letter := range []string{"c", "e"} {
		if got, e := operand.In(o, api.Rel{Op: letter, List: spans("1..5,6")}); !got || e != api.OK {
			t.Errorf("In of the exponent as %s: %v %d", letter, got, e)
		}
	}
}

// lists is some that a relation may have.
var lists = []string{"0", "1", "2..4", "0..1", "5,7,11..19", "1..1000000", "0.." + repeat("9", 40), "3,1,2", "12..14,12", repeat("9", 40), repeat("5", 39) + ".." + repeat("5", 40)}

// relations is all relations of these moduli and lists, for an operand.
func relations(letter string) []api.Rel {
	var all []api.Rel
	for _, mod := range []string{"", "1", "10", "100", "1000000", repeat("7", 30)} {
		for _, list := range lists {
			for at := range 4 {
				all = append(all, api.Rel{Op: letter, Mod: mod, Not: at >= 2, Within: at%2 == 1, List: spans(list)})
			}
		}
	}
	return all
}

// TestInOfSamples: P4.4. Each of the operands is asked by one letter; that the step has no factor in common with their number lets all letters have their turn.
func TestInOfSamples(t *testing.T) {
	all := operands()
	for at := 0; at < len(all); at += 3 {
		o := all[at]
		for _, r := range relations(letters[at%len(letters)]) {
			want := wantIn(o, r)
			if got, e := operand.In(o, r); got != want || e != api.OK {
				t.Errorf("In(%v, %v): %v %d, want %v", o, r, got, e, want)
			}
		}
	}
}

// TestInErrors: P4.4, whether the rest of the relation holds or not.
func TestInErrors(t *testing.T) {
	refused := func(o api.Ops, r api.Rel) {
		t.Helper()
		for at := range 4 {
			r.Not, r.Within = at >= 2, at%2 == 1
			if got, e := operand.In(o, r); got || e != api.ErrOperand {
				t.Errorf("In(%s, %s): %v %d", clip(o), clip(r), got, e)
			}
		}
	}
	for _, text := range []string{"5", "5.5"} {
		o := mustOf(t, text)
		for _, letter := range wrongLetters {
			refused(o, api.Rel{Op: letter, List: spans("5")})
		}
		for _, mod := range append(wrongNumbers(), "0") {
			refused(o, api.Rel{Op: "n", Mod: mod, List: spans("5")})
		}
		for _, s := range append(wrongNumbers(), "") {
			for _, wrong := range []api.Span{{Lo: s, Hi: s}, {Lo: s, Hi: "5"}, {Lo: "5", Hi: s}} {
				refused(o, api.Rel{Op: "n", List: []api.Span{wrong}})
				refused(o, api.Rel{Op: "n", List: []api.Span{wrong, {Lo: "5", Hi: "6"}}})
				refused(o, api.Rel{Op: "n", List: []api.Span{{Lo: "5", Hi: "6"}, wrong}})
			}
		}
		for _, list := range []string{"6..5", "5,6..5", "10..9", "5,100..99,5", "1..0", repeat("9", 40) + ".." + repeat("9", 39), "5," + repeat("9", 40) + ".." + repeat("9", 39) + "8"} {
			refused(o, api.Rel{Op: "n", List: spans(list)})
		}
		refused(o, api.Rel{Op: "n"})
		refused(o, api.Rel{Op: "n", List: []api.Span{}})
		refused(o, api.Rel{Op: "n", List: slices.Repeat(spans("5"), 65)})
		refused(o, api.Rel{Op: "n", List: slices.Repeat(spans("5"), 100000)})
	}
	for _, o := range notValid() {
		refused(o, api.Rel{Op: "n", List: spans("0.." + repeat("9", 40))})
		refused(o, api.Rel{Op: "e", List: spans("0")})
	}
}

// TestInOfManySpans: P4.4, MaxSpans spans are permitted, and the last of them counts.
func TestInOfManySpans(t *testing.T) {
	for n := 1; n <= 64; n++ {
		list := append(slices.Repeat(spans("7"), n-1), spans("5")...)
		for _, not := range []bool{false, true} {
			if got, e := operand.In(mustOf(t, "5"), api.Rel{Op: "n", Not: not, List: list}); got == not || e != api.OK {
				t.Errorf("In of %d spans: %v %d", n, got, e)
			}
			if got, e := operand.In(mustOf(t, "6"), api.Rel{Op: "n", Not: not, List: list}); got != not || e != api.OK {
				t.Errorf("In of %d spans, in none: %v %d", n, got, e)
			}
		}
	}
}
