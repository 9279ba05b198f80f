package decimal_test

import (
	"regexp"
	"testing"

	"idiom/api"
	"idiom/decimal"
)

// TestCheck: P2.1.
func TestCheck(t *testing.T) {
	for _, d := range append(samples(), dec("-12.50"), dec("0"), dec("7"), dec("-0.01"), dec("1000")) {
		if e := decimal.Check(d); e != api.OK {
			t.Errorf("Check(%v): %d", d, e)
		}
	}
	for _, d := range wrong() {
		if e := decimal.Check(d); e != api.ErrDecimal {
			t.Errorf("Check(%.60v): %d", d, e)
		}
	}
}

// shortTexts is all texts of at most so many of these bytes.
func shortTexts(alphabet string, most int) []string {
	all := []string{""}
	for begin := 0; most > 0; most-- {
		end := len(all)
		for _, text := range all[begin:end] {
			for at := range len(alphabet) {
				all = append(all, text+alphabet[at:at+1])
			}
		}
		begin = end
	}
	return all
}

// TestCheckOfShortTexts goes through all short pieces of these characters, and through each byte.
func TestCheckOfShortTexts(t *testing.T) {
	try := func(d api.Dec) {
		want := api.ErrDecimal
		if isValid(d) {
			want = api.OK
		}
		if e := decimal.Check(d); e != want {
			t.Errorf("Check(%q): %d, want %d", textOf(d), e, want)
		}
	}
	texts := shortTexts("019-.x", 3)
	for _, whole := range texts {
		for _, frac := range texts {
			try(api.Dec{Int: whole, Frac: frac})
			try(api.Dec{Neg: true, Int: whole, Frac: frac})
		}
	}
	for b := range 256 {
		s := string([]byte{byte(b)})
		try(api.Dec{Int: s})
		try(api.Dec{Int: "1" + s})
		try(api.Dec{Int: "1", Frac: s})
		try(api.Dec{Int: "1", Frac: "5" + s})
	}
}

// TestCheckOfLongOnes: 40 digits, wherever the point stands, and one more.
func TestCheckOfLongOnes(t *testing.T) {
	for whole := 1; whole <= 40; whole++ {
		d := api.Dec{Neg: true, Int: repeat("3", whole), Frac: repeat("0", 40-whole)}
		if e := decimal.Check(d); e != api.OK {
			t.Errorf("Check(%v): %d", d, e)
		}
		d.Frac += "0"
		if e := decimal.Check(d); e != api.ErrDecimal {
			t.Errorf("Check(%v): %d", d, e)
		}
	}
}

func parsed(t *testing.T, text string, want api.Dec, wantErrno api.Errno) {
	t.Helper()
	if got, e := decimal.Parse(text); got != want || e != wantErrno {
		t.Errorf("Parse(%.60q of %d bytes): %v %d, want %v %d", text, len(text), got, e, want, wantErrno)
	}
}

// TestParse: P2.2.
func TestParse(t *testing.T) {
	for text, want := range map[string]api.Dec{
		"-12.50":                {Neg: true, Int: "12", Frac: "50"},
		"0":                     {Int: "0"},
		"0.0":                   {Int: "0", Frac: "0"},
		"0.05":                  {Int: "0", Frac: "05"},
		"-0.05":                 {Neg: true, Int: "0", Frac: "05"},
		"7":                     {Int: "7"},
		"-7":                    {Neg: true, Int: "7"},
		"1.00":                  {Int: "1", Frac: "00"},
		"100":                   {Int: "100"},
		"1234567890.0987654321": {Int: "1234567890", Frac: "0987654321"},
		repeat("9", 40):         {Int: repeat("9", 40)},
		"-" + repeat("9", 40):   {Neg: true, Int: repeat("9", 40)},
		"0." + repeat("0", 39):  {Int: "0", Frac: repeat("0", 39)},
		"-" + repeat("1", 13) + "." + repeat("0", 27): {Neg: true, Int: repeat("1", 13), Frac: repeat("0", 27)},
	} {
		parsed(t, text, want, api.OK)
	}
	for _, text := range []string{
		"", "-", ".", "-.", "007", "00", "01", "-01", "00.5", "+1", "--1", "-+1", "+0", ".5", "-.5", "1.", "-1.", "0.", "-0", "-0.0", "-0.00",
		"1..5", "1.5.", "1.5.5", "1.-5", "1-", "1-2", "1.5-", "5-1", "1,5", "1e5", "1E5", "0x1", "1_000", "1 ", " 1", "1 000", "1\n", "\t1", "1.5 ", "- 1", "1. 5",
		"a", "1a", "a1", "1.a", "1.5a", "NaN", "Inf", "\u22121", "\u0661", "1.\u0661", "\xff", "1\x00", "\ufeff1", "1/2", "1:2",
	} {
		parsed(t, text, api.Dec{}, api.ErrDecimal)
	}
}

// TestParseOfShortTexts goes through all short texts of these characters, and puts each byte beside digits.
func TestParseOfShortTexts(t *testing.T) {
	form, negZero := regexp.MustCompile(`^-?(0|[1-9][0-9]*)(\.[0-9]+)?$`), regexp.MustCompile(`^-[0.]*$`)
	try := func(text string) {
		t.Helper()
		if form.MatchString(text) && !negZero.MatchString(text) {
			parsed(t, text, dec(text), api.OK)
		} else {
			parsed(t, text, api.Dec{}, api.ErrDecimal)
		}
	}
	for _, text := range shortTexts("-.015x", 6) {
		try(text)
	}
	for b := range 256 {
		s := string([]byte{byte(b)})
		for _, text := range []string{s, s + "1", "1" + s, "1" + s + "1", "1." + s, "1.5" + s, "-" + s} {
			try(text)
		}
	}
}

// TestParseOfLongTexts: first ErrLong, then ErrDecimal by the form alone, then ErrBound.
func TestParseOfLongTexts(t *testing.T) {
	const most = 65536
	for text, want := range map[string]api.Errno{
		repeat("9", 41):                         api.ErrBound,
		"-" + repeat("9", 41):                   api.ErrBound,
		"1." + repeat("0", 40):                  api.ErrBound,
		"0." + repeat("0", 40):                  api.ErrBound,
		"-0." + repeat("0", 40) + "1":           api.ErrBound,
		repeat("1", 40) + ".0":                  api.ErrBound,
		repeat("1", 21) + "." + repeat("2", 20): api.ErrBound,
		repeat("9", most):                       api.ErrBound,
		"1." + repeat("0", most-2):              api.ErrBound,
		"0" + repeat("9", 40):                   api.ErrDecimal,
		repeat("0", 41):                         api.ErrDecimal,
		repeat("0", most):                       api.ErrDecimal,
		"-0." + repeat("0", 40):                 api.ErrDecimal,
		"-0." + repeat("0", most-3):             api.ErrDecimal,
		repeat("9", 41) + ".":                   api.ErrDecimal,
		repeat("9", 41) + "x":                   api.ErrDecimal,
		repeat("9", 41) + ".9.9":                api.ErrDecimal,
		"." + repeat("9", 41):                   api.ErrDecimal,
		"+" + repeat("9", 41):                   api.ErrDecimal,
		repeat("9", most-1) + "x":               api.ErrDecimal,
		repeat("x", most):                       api.ErrDecimal,
		repeat("9", most+1):                     api.ErrLong,
		repeat("x", most+1):                     api.ErrLong,
		repeat("0", most+1):                     api.ErrLong,
		"-0." + repeat("0", most-2):             api.ErrLong,
		repeat("9", 20*most):                    api.ErrLong,
	} {
		parsed(t, text, api.Dec{}, want)
	}
}

// TestPrint: P2.3.
func TestPrint(t *testing.T) {
	for text, d := range map[string]api.Dec{
		"0.05":   {Int: "0", Frac: "05"},
		"-12.50": {Neg: true, Int: "12", Frac: "50"},
		"0":      {Int: "0"},
		"0.00":   {Int: "0", Frac: "00"},
		"-7":     {Neg: true, Int: "7"},
		"1.0":    {Int: "1", Frac: "0"},
		"100":    {Int: "100"},
	} {
		if got, e := decimal.Print(d); got != text || e != api.OK {
			t.Errorf("Print(%v): %q %d, want %q", d, got, e, text)
		}
	}
	for _, d := range samples() {
		if got, e := decimal.Print(d); got != textOf(d) || e != api.OK {
			t.Errorf("Print(%v): %q %d", d, got, e)
		}
	}
	for _, d := range wrong() {
		if got, e := decimal.Print(d); got != "" || e != api.ErrDecimal {
			t.Errorf("Print(%.60v): %.60q %d", d, got, e)
		}
	}
}

// TestTextRoundTrip: P2.11.
func TestTextRoundTrip(t *testing.T) {
	for _, d := range append(samples(), randomDecs(3, 2000, 40)...) {
		text, e := decimal.Print(d)
		back, e2 := decimal.Parse(text)
		if e != api.OK || e2 != api.OK || back != d {
			t.Errorf("Parse(Print(%v)): %v %d %d", d, back, e, e2)
		}
	}
	decimals := map[api.Dec]string{}
	for _, text := range shortTexts("-.015", 6) {
		d, e := decimal.Parse(text)
		if e != api.OK {
			continue
		}
		if back, e := decimal.Print(d); back != text || e != api.OK {
			t.Errorf("Print(Parse(%q)): %q %d", text, back, e)
		}
		if other, ok := decimals[d]; ok {
			t.Errorf("one decimal of two texts: %q, %q", text, other)
		}
		decimals[d] = text
	}
	if len(decimals) < 1000 {
		t.Errorf("only %d texts were parsed", len(decimals))
	}
}
