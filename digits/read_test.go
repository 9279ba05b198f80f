package digits_test

import (
	"math/rand"
	"strconv"
	"testing"
	"unicode/utf8"

	"idiom/api"
	"idiom/digits"
)

// TestReadExamples: the examples of the chapter.
func TestReadExamples(t *testing.T) {
	read(t, "thai", "\u0e51\u0e52 x", "12", 6)
	unread(t, "arab", "1", api.ErrDigit)
}

// TestRead: P8.3, the longest sequence of digits of the system with which s begins, as bytes 48 to 57, and its length in bytes.
func TestRead(t *testing.T) {
	for _, name := range names {
		for digit, text := range scripts[name] {
			read(t, name, text, strconv.Itoa(digit), len(text))
			read(t, name, text+"x"+text, strconv.Itoa(digit), len(text))
			read(t, name, text+text+" "+text, strconv.Itoa(digit)+strconv.Itoa(digit), 2*len(text))
			unread(t, name, "x"+text, api.ErrDigit)
			unread(t, name, " "+text, api.ErrDigit)
			unread(t, name, "-"+text, api.ErrDigit)
		}
		all := written(name, "9876543210")
		read(t, name, all, "9876543210", len(all))
		read(t, name, written(name, "000700."), "000700", len(written(name, "000700")))
	}
}

// TestReadRunes: a rune is a digit of a system exactly if it is one of its ten.
func TestReadRunes(t *testing.T) {
	for _, name := range names {
		found := 0
		for r := rune(0); r <= utf8.MaxRune; r++ {
			if 0xD800 <= r && r <= 0xDFFF {
				continue
			}
			if r > 0x11000 && r < 0x10FF00 && r&0x3ff != 0 { // far from all digits, every thousandth one will do
				continue
			}
			got, n, e := digits.Read(name, string(r))
			if e != api.OK {
				if got != "" || n != 0 || e != api.ErrDigit {
					t.Fatalf("Read(%s, %q): %q, %d, %d", name, r, got, n, e)
				}
				continue
			}
			found++
			digit, err := strconv.Atoi(got)
			if err != nil || scripts[name][digit] != string(r) || n != len(string(r)) {
				t.Errorf("Read(%s, %q): %q, %d", name, r, got, n)
			}
		}
		if found != 10 {
			t.Errorf("%s has %d digits", name, found)
		}
	}
}

// TestReadStrayBytes: bytes that are no well-formed UTF-8 are no digits.
func TestReadStrayBytes(t *testing.T) {
	for _, name := range names {
		text := scripts[name][1]
		for size := range len(text) {
			if size == 0 {
				continue
			}
			unread(t, name, text[:size], api.ErrDigit)
			unread(t, name, text[size:], api.ErrDigit)
			unread(t, name, text[:size]+text, api.ErrDigit)
			read(t, name, text+text[:size], "1", len(text))
			read(t, name, text+text[size:], "1", len(text))
			read(t, name, text+text[:size]+text, "1", len(text))
		}
		for _, stray := range []string{"\x80", "\xb0", "\xff", "\xc0\xb0", "\xe0\x80\xb0", "\xed\xa0\x80", "\xf0\x80\x80\xb0", "\ufffd"} {
			unread(t, name, stray, api.ErrDigit)
			unread(t, name, stray+text, api.ErrDigit)
			read(t, name, text+stray, "1", len(text))
			read(t, name, text+text+stray+text, "11", 2*len(text))
		}
	}
}

// TestReadErrorsInOrder: P8.3, ErrSystem, then ErrLong, if s has more than MaxText bytes, then ErrDigit, if s does not begin with a digit of the system.
func TestReadErrorsInOrder(t *testing.T) {
	const most = 65536
	for _, name := range noNames {
		for _, s := range []string{"", "1", "a", repeat("1", most+1), repeat("a", most+1)} {
			unread(t, name, s, api.ErrSystem)
		}
	}
	for _, name := range names {
		text := scripts[name][3]
		unread(t, name, "", api.ErrDigit)
		unread(t, name, repeat("x", most), api.ErrDigit)
		unread(t, name, repeat("x", most+1), api.ErrLong)
		unread(t, name, text+repeat("x", most+1-len(text)), api.ErrLong)
		read(t, name, text+repeat("x", most-len(text)), "3", len(text))
		full := most / len(text)
		padding := repeat("x", most%len(text))
		read(t, name, repeat(text, full)+padding, repeat("3", full), full*len(text))
		unread(t, name, repeat(text, full)+padding+"x", api.ErrLong)
	}
}

// TestReadAnyText: whatever is handed in, Read answers what the chapter says (R1, R2), and the same when it is asked again (R4).
func TestReadAnyText(t *testing.T) {
	random := rand.New(rand.NewSource(87))
	counts := map[api.Errno]int{}
	for range 20000 {
		name := one(random, names)
		s := ""
		for range random.Intn(8) {
			switch random.Intn(8) {
			case 0:
				s += one(random, []string{"x", " ", "1", "-", "\xff", "\x80", "\xe0", "\xe0\xa5", "\u0669\u066a", "\u3008"})
			case 1:
				s += scripts[one(random, names)][random.Intn(10)]
			default:
				s += written(name, anyDigits(random, 4))
			}
		}
		if s != "" && random.Intn(4) == 0 {
			s = s[random.Intn(len(s)):]
		}
		if random.Intn(50) == 0 {
			name = one(random, noNames)
		}
		want, size, e := wantRead(name, s)
		counts[e]++
		for range 2 {
			if got, n, e2 := digits.Read(name, s); got != want || n != size || e2 != e {
				t.Fatalf("Read(%s, %q): %q, %d, %d, want %q, %d, %d", clip(name), s, got, n, e2, want, size, e)
			}
		}
	}
	if counts[api.OK] < 5000 || counts[api.ErrDigit] < 1000 || counts[api.ErrSystem] < 200 {
		t.Errorf("too few: %v", counts)
	}
}
