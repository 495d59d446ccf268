package utf_test

import (
	"bytes"
	"slices"
	"strings"
	"testing"

	"carryall/utf"
)

// shapes are the chapter's rows: from what to what each byte of a character goes.
var shapes = [][][2]byte{
	{{0x00, 0x7F}},
	{{0xC2, 0xDF}, {0x80, 0xBF}},
	{{0xE0, 0xE0}, {0xA0, 0xBF}, {0x80, 0xBF}},
	{{0xE1, 0xEC}, {0x80, 0xBF}, {0x80, 0xBF}},
	{{0xED, 0xED}, {0x80, 0x9F}, {0x80, 0xBF}},
	{{0xEE, 0xEF}, {0x80, 0xBF}, {0x80, 0xBF}},
	{{0xF0, 0xF0}, {0x90, 0xBF}, {0x80, 0xBF}, {0x80, 0xBF}},
	{{0xF1, 0xF3}, {0x80, 0xBF}, {0x80, 0xBF}, {0x80, 0xBF}},
	{{0xF4, 0xF4}, {0x80, 0x8F}, {0x80, 0xBF}, {0x80, 0xBF}},
}

// fits tells how many bytes at b's beginning fit a shape.
func fits(b []byte, shape [][2]byte) int {
	n := 0
	for n < len(b) && n < len(shape) && b[n] >= shape[n][0] && b[n] <= shape[n][1] {
		n++
	}
	return n
}

// model reads b by the rows, and tells whether it is valid.
func model(b []byte) ([]rune, bool) {
	var l []rune
	valid := true
	for len(b) > 0 {
		best, whole := 0, false
		for _, shape := range shapes {
			if n := fits(b, shape); n > best {
				best, whole = n, n == len(shape)
			}
		}
		if whole {
			l = append(l, []rune(string(b[:best]))...)
		} else {
			l = append(l, 0xFFFD)
			valid = false
		}
		b = b[max(best, 1):]
	}
	return l, valid
}

func checkBytes(t *testing.T, b []byte) {
	t.Helper()
	want, valid := model(b)
	if got := utf.Decode(b); !slices.Equal(got, want) {
		t.Errorf("Decode(% x): %x, want %x", b, got, want)
	}
	if got := utf.Valid(b); got != valid {
		t.Errorf("Valid(% x): %v", b, got)
	}
}

// P1.1: every text of up to four bytes at the edges of the rows.
func TestDecodeAtEdges(t *testing.T) {
	edges := []byte{0x00, 0x41, 0x7F, 0x80, 0x8F, 0x90, 0x9F, 0xA0, 0xBF, 0xC0, 0xC1, 0xC2, 0xDF, 0xE0, 0xE1, 0xEC, 0xED, 0xEE, 0xEF, 0xF0, 0xF1, 0xF3, 0xF4, 0xF5, 0xFF}
	for _, a := range edges {
		checkBytes(t, []byte{a})
		for _, b := range edges {
			checkBytes(t, []byte{a, b})
			for _, c := range edges {
				checkBytes(t, []byte{a, b, c})
				for _, d := range edges {
					checkBytes(t, []byte{a, b, c, d})
				}
			}
		}
	}
	for a := 0; a < 256; a++ {
		for b := 0; b < 256; b++ {
			checkBytes(t, []byte{byte(a), byte(b), 0x80, 0xBF, 'x'})
		}
	}
}

// P1.1: what the chapter names.
func TestDecodeByHand(t *testing.T) {
	for _, c := range []struct {
		b    string
		want []rune
	}{
		{"", nil},
		{"aZ", []rune{'a', 'Z'}},
		{"\xe2\x82\xac", []rune{0x20AC}},
		{"\xe2\x82A", []rune{0xFFFD, 'A'}},
		{"\xed\xa0\x80", []rune{0xFFFD, 0xFFFD, 0xFFFD}},
		{"\xf0\x9f\x98", []rune{0xFFFD}},
		{"\xf0\x9f\x98\x80", []rune{0x1F600}},
		{"\xf0\x9f\xf0\x9f\x98\x80", []rune{0xFFFD, 0x1F600}},
		{"\xc0\xaf", []rune{0xFFFD, 0xFFFD}},
		{"\xef\xbf\xbd", []rune{0xFFFD}},
		{"\xef\xbb\xbfa", []rune{0xFEFF, 'a'}},
		{"\xf4\x8f\xbf\xbf\xf4\x90\x80\x80", []rune{0x10FFFF, 0xFFFD, 0xFFFD, 0xFFFD, 0xFFFD}},
	} {
		if got := utf.Decode([]byte(c.b)); !slices.Equal(got, c.want) {
			t.Errorf("Decode(% x): %x", c.b, got)
		}
	}
	if !utf.Valid(nil) || !utf.Valid([]byte("\xef\xbf\xbd")) || utf.Valid([]byte("a\x80")) || utf.Valid([]byte("\xe2\x82")) {
		t.Error("Valid")
	}
}

// P1.1: Encode of characters, and of numbers that are none.
func TestEncode(t *testing.T) {
	for _, c := range []struct {
		l    []rune
		want string
	}{
		{nil, ""},
		{[]rune{0}, "\x00"},
		{[]rune{0x7F, 0x80}, "\x7f\xc2\x80"},
		{[]rune{0x7FF, 0x800}, "\xdf\xbf\xe0\xa0\x80"},
		{[]rune{0x20AC}, "\xe2\x82\xac"},
		{[]rune{0xD7FF, 0xE000}, "\xed\x9f\xbf\xee\x80\x80"},
		{[]rune{0xD800}, "\xef\xbf\xbd"},
		{[]rune{0xDFFF}, "\xef\xbf\xbd"},
		{[]rune{0xFFFF, 0x10000}, "\xef\xbf\xbf\xf0\x90\x80\x80"},
		{[]rune{0x10FFFF}, "\xf4\x8f\xbf\xbf"},
		{[]rune{0x110000, 0x7FFFFFFF}, "\xef\xbf\xbd\xef\xbf\xbd"},
		{[]rune{-1, -0x80000000, 'a'}, "\xef\xbf\xbd\xef\xbf\xbda"},
	} {
		if got := utf.Encode(c.l...); string(got) != c.want {
			t.Errorf("Encode(%x): % x", c.l, got)
		}
	}
	for r := rune(0); r <= 0x10FFFF; r += 7 {
		b := utf.Encode(r)
		if r >= 0xD800 && r <= 0xDFFF {
			continue
		}
		if got := utf.Decode(b); len(got) != 1 || got[0] != r || !utf.Valid(b) {
			t.Fatalf("%x: %x", r, got)
		}
	}
}

// R3: nothing that is handed in is touched, its spare room neither.
func TestArgumentsStay(t *testing.T) {
	b := []byte("a\xc3\xa9\x80zz")
	utf.Decode(b[:4])
	utf.Valid(b[:4])
	if string(b) != "a\xc3\xa9\x80zz" {
		t.Error("bytes changed")
	}
	l := []rune{-1, 'b', 'c'}
	first := utf.Encode(l[:2]...)
	second := utf.Encode(l[:2]...)
	first[0] = 'x'
	if !slices.Equal(l, []rune{-1, 'b', 'c'}) || bytes.Equal(first, second) {
		t.Error("memory shared")
	}
}

// P1.2: every byte.
func TestLetters(t *testing.T) {
	const digits = "0123456789"
	const small = "abcdefghijklmnopqrstuvwxyz"
	const capital = "ABCDEFGHIJKLMNOPQRSTUVWXYZ"
	for k := 0; k < 256; k++ {
		c := byte(k)
		s := string([]byte{c})
		if got := utf.Letter(c); got != strings.Contains(small+capital, s) {
			t.Errorf("Letter(%x): %v", c, got)
		}
		if got := utf.Digit(c); got != strings.Contains(digits, s) {
			t.Errorf("Digit(%x): %v", c, got)
		}
		hex := strings.Index("0123456789abcdef", s)
		if hex < 0 {
			if hex = strings.Index("ABCDEF", s); hex >= 0 {
				hex += 10
			}
		}
		if got := utf.Hex(c); got != hex {
			t.Errorf("Hex(%x): %d", c, got)
		}
		low := s
		if at := strings.Index(capital, s); at >= 0 {
			low = small[at : at+1]
		}
		if got := utf.Lower("x" + s + "Y"); got != "x"+low+"y" {
			t.Errorf("Lower(%x): %q", c, got)
		}
	}
	if got := utf.Lower("K\u212a\xffÉ"); got != "k\u212a\xffÉ" {
		t.Errorf("Lower: %q", got)
	}
	if utf.Lower("") != "" {
		t.Error("Lower of nothing")
	}
}
