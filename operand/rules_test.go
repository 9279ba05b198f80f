package operand_test

import (
	"math/rand"
	"reflect"
	"slices"
	"strconv"
	"strings"
	"testing"
	"unsafe"

	"idiom/api"
	"idiom/operand"
)

// someOf is values of which a random one may be taken.
type someOf struct {
	random *rand.Rand
	ops    []api.Ops
	wrong  []string
}

// word is mostly a short number.
func (s someOf) word() string {
	if s.random.Intn(10) == 0 {
		return s.wrong[s.random.Intn(len(s.wrong))]
	}
	return strconv.Itoa(s.random.Intn([]int{3, 13, 130, 1 << 40}[s.random.Intn(4)]))
}

func (s someOf) number() int {
	if s.random.Intn(8) == 0 {
		return int(s.random.Uint64())
	}
	return s.random.Intn(45) - 2
}

func (s someOf) dec() api.Dec {
	return api.Dec{Neg: s.random.Intn(2) == 0, Int: s.word(), Frac: s.word()}
}

func (s someOf) operands() api.Ops {
	if s.random.Intn(4) == 0 {
		return api.Ops{N: s.dec(), I: s.word(), V: s.number(), W: s.number(), F: s.word(), T: s.word(), E: s.number()}
	}
	return s.ops[s.random.Intn(len(s.ops))]
}

func (s someOf) relation() api.Rel {
	r := api.Rel{Op: letters[s.random.Intn(len(letters))], Not: s.random.Intn(2) == 0, Within: s.random.Intn(2) == 0}
	if s.random.Intn(8) == 0 {
		r.Op = s.word()
	}
	if s.random.Intn(2) == 0 {
		r.Mod = s.word()
	}
	for range s.random.Intn(4) {
		r.List = append(r.List, api.Span{Lo: s.word(), Hi: s.word()})
	}
	return r
}

// wantRelErrno is whether a relation may be asked for valid operands.
func wantRelErrno(r api.Rel) api.Errno {
	isNumber := func(s string) bool { return form.MatchString(s) && !strings.Contains(s, ".") && len(s) <= 40 }
	ok := slices.Contains(letters, r.Op) && (r.Mod == "" || isNumber(r.Mod) && r.Mod != "0") && len(r.List) > 0
	for _, span := range r.List {
		ok = ok && isNumber(span.Lo) && isNumber(span.Hi) && scaled(span.Lo).Cmp(scaled(span.Hi)) <= 0
	}
	if !ok {
		return api.ErrOperand
	}
	return api.OK
}

// TestAnyArguments: whatever is handed in, each call ends, answers what the chapter says, or an error and nothing beside it; and the same when it is asked again (R1, R2, R4).
func TestAnyArguments(t *testing.T) {
	some := someOf{rand.New(rand.NewSource(4)), append(operands(), altered()...), append(wrongNumbers(), "", "n", "x", repeat("9", 40))}
	held, refused := 0, 0
	for range 40000 {
		d, exp, o, letter, by, r := some.dec(), some.number(), some.operands(), some.relation().Op, some.word(), some.relation()
		got, e := operand.Of(d, exp)
		if again, e2 := operand.Of(d, exp); again != got || e2 != e || e == api.OK && !isValid(got) || e != api.OK && got != (api.Ops{}) {
			t.Errorf("Of(%v, %d): %v %d, again %v %d", d, exp, got, e, again, e2)
		}
		for _, call := range []func() (api.Dec, api.Errno){
			func() (api.Dec, api.Errno) { return operand.Get(o, letter) },
			func() (api.Dec, api.Errno) { return operand.Mod(o, letter, by) },
		} {
			got, e := call()
			if again, e2 := call(); again != got || e2 != e || e == api.OK && (!form.MatchString(textOf(got)) || got.Neg) || e != api.OK && (got != api.Dec{} || e != api.ErrOperand) {
				t.Errorf("Get or Mod(%s, %.60q, %.60q): %v %d, again %v %d", clip(o), letter, by, got, e, again, e2)
			}
		}
		is, e := operand.In(o, r)
		want, wantErrno := false, wantRelErrno(r)
		if !isValid(o) {
			wantErrno = api.ErrOperand
		}
		if wantErrno == api.OK {
			want = wantIn(o, r)
			held++
		} else {
			refused++
		}
		if again, e2 := operand.In(o, r); is != want || e != wantErrno || again != is || e2 != e {
			t.Errorf("In(%s, %s): %v %d, again %v %d", clip(o), clip(r), is, e, again, e2)
		}
	}
	if held < 2000 || refused < 5000 {
		t.Errorf("asked only %d relations that may be, %d that may not", held, refused)
	}
}

// within tells whether a text lies in the memory of another one.
func within(s, memory string) bool {
	if s == "" || memory == "" {
		return false
	}
	at, begin := uintptr(unsafe.Pointer(unsafe.StringData(s))), uintptr(unsafe.Pointer(unsafe.StringData(memory)))
	return begin <= at && at < begin+uintptr(len(memory))
}

// TestResultsAreNewMemory: R3.
func TestResultsAreNewMemory(t *testing.T) {
	memory := strings.Clone("123456.001234567800")
	fresh := func(name string, e api.Errno, texts ...string) {
		t.Helper()
		if e != api.OK || slices.ContainsFunc(texts, func(s string) bool { return within(s, memory) }) {
			t.Errorf("%s: %d, or a result that shares memory with an argument", name, e)
		}
	}
	for _, exp := range []int{0, 3, 20} {
		for _, end := range []int{7, 17, 19} {
			o, e := operand.Of(api.Dec{Int: memory[:6], Frac: memory[7:end]}, exp)
			fresh("Of", e, o.N.Int, o.N.Frac, o.I, o.F, o.T)
		}
	}
	o := api.Ops{N: api.Dec{Int: memory[:6], Frac: memory[7:17]}, I: memory[:6], V: 12, W: 10, F: memory[9:], T: memory[9:17], E: 0}
	for _, letter := range letters {
		d, e := operand.Get(o, letter)
		fresh("Get "+letter, e, d.Int, d.Frac)
		d, e = operand.Mod(o, letter, "")
		fresh("Mod "+letter, e, d.Int, d.Frac)
		d, e = operand.Mod(o, letter, memory[:6])
		fresh("Mod "+letter+" by its own", e, d.Int, d.Frac)
		d, e = operand.Mod(o, letter, repeat("9", 40))
		fresh("Mod "+letter+" by more", e, d.Int, d.Frac)
	}
	if memory != "123456.001234567800" {
		t.Error("an argument was changed")
	}
}

// TestArgumentsStay: R3, a list that is handed in is not changed.
func TestArgumentsStay(t *testing.T) {
	list := spans("5,7..9,1..3,2")
	r := api.Rel{Op: "n", Mod: "10", List: list}
	for _, text := range []string{"1", "2.5", "17", "40"} {
		in(t, mustOf(t, text), r)
	}
	if !reflect.DeepEqual(list, spans("5,7..9,1..3,2")) || len(r.List) != len(list) {
		t.Errorf("the list was changed: %v", list)
	}
}
