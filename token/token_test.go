package token_test

import (
	"strings"
	"testing"
	"unicode/utf8"

	"carryall/token"
)

const tokens = "!#$%&'*+-.^_`|~ABCDEFGHIJKLMNOPQRSTUVWXYZabcdefghijklmnopqrstuvwxyz0123456789"

// P4.1: every byte as a token's.
func TestIs(t *testing.T) {
	for k := range 256 {
		c := string([]byte{byte(k)})
		want := strings.Contains(tokens, c)
		for _, s := range []string{c, "a" + c, c + "a", "a" + c + "z"} {
			if got := token.Is(s); got != want {
				t.Errorf("Is(%q): %v", s, got)
			}
		}
	}
	if token.Is("") || !token.Is(tokens) || token.Is("é") {
		t.Error("Is")
	}
}

// P4.1: every character below 300 (hexadecimal), and bytes that are none.
func TestQuotable(t *testing.T) {
	for r := rune(0); r < 0x300; r++ {
		want := r == 9 || r >= 0x20 && r <= 0x7E || r >= 0x80 && r <= 0xFF
		for _, s := range []string{string(r), "a" + string(r), string(r) + "a"} {
			if got := token.Quotable(s); got != want {
				t.Errorf("Quotable(%q): %v", s, got)
			}
		}
	}
	for _, s := range []string{"\xff", "a\x80", "\xc3", "\xe9", "\xc3\xa9\xc3", "\u20ac", "\U0001f600", "\ufffd"} {
		if token.Quotable(s) {
			t.Errorf("Quotable(%q)", s)
		}
	}
	if !token.Quotable("") || !token.Quotable("a b\t\"\\é") {
		t.Error("Quotable")
	}
}

// P4.1: blanks, of every byte.
func TestTrim(t *testing.T) {
	for k := range 256 {
		c := string([]byte{byte(k)})
		blank := strings.Contains("\t\n\r ", c)
		s := c + "a" + c + "b" + c
		trim, right := s, s
		if blank {
			trim, right = "a"+c+"b", c+"a"+c+"b"
		}
		if got := token.Trim(s); got != trim {
			t.Errorf("Trim(%q): %q", s, got)
		}
		if got := token.Right(s); got != right {
			t.Errorf("Right(%q): %q", s, got)
		}
	}
	if token.Trim(" \t\r\n") != "" || token.Right(" \t\r\n") != "" || token.Trim("") != "" || token.Right("") != "" {
		t.Error("of blanks alone")
	}
	if got := token.Trim("\r\n\t a \r\n\t "); got != "a" {
		t.Errorf("Trim: %q", got)
	}
	if got := token.Right("\r\n\t a \r\n\t "); got != "\r\n\t a" {
		t.Errorf("Right: %q", got)
	}
}

// P4.2: quoted strings.
func TestQuoted(t *testing.T) {
	for _, c := range []struct {
		s, want string
		size    int
	}{
		{`"a\"b"c`, `a"b`, 6},
		{``, ``, 0},
		{`a`, ``, 0},
		{` "a"`, ``, 0},
		{`\"a"`, ``, 0},
		{`"`, ``, 1},
		{`""`, ``, 2},
		{`""a"`, ``, 2},
		{`"a"`, `a`, 3},
		{`"a"b"`, `a`, 3},
		{`"a`, `a`, 2},
		{`"a b;c=d`, `a b;c=d`, 8},
		{`"\`, `\`, 2},
		{`"a\`, `a\`, 3},
		{`"\\`, `\`, 3},
		{`"\\\`, `\\`, 4},
		{`"\"`, `"`, 3},
		{`"\""`, `"`, 4},
		{`"\\"`, `\`, 4},
		{`"\\"x`, `\`, 4},
		{`"\a\b"`, `ab`, 6},
		{"\"\\é\xff\\\xff\"", "é\xff\xff", 8},
	} {
		if got, size := token.Quoted(c.s); got != c.want || size != c.size {
			t.Errorf("Quoted(%q): %q %d", c.s, got, size)
		}
	}
}

// P4.2: Quote; P4.3: and back, of all texts of some length out of some bytes.
func TestQuote(t *testing.T) {
	for _, c := range []struct{ s, want string }{
		{``, `""`},
		{`a b`, `"a b"`},
		{`"`, `"\""`},
		{`\`, `"\\"`},
		{`a\"b`, `"a\\\"b"`},
		{"\xff\x00", "\"\xff\x00\""},
	} {
		if got := token.Quote(c.s); got != c.want {
			t.Errorf("Quote(%q): %q", c.s, got)
		}
	}
	texts := []string{""}
	for range 5 {
		var longer []string
		for _, s := range texts {
			for _, c := range []string{`"`, `\`, "a", "\xc3", "\xa9", " "} {
				longer = append(longer, s+c)
			}
		}
		for _, s := range longer {
			checkQuote(t, s)
		}
		texts = longer
	}
}

func checkQuote(t *testing.T, s string) {
	t.Helper()
	quoted := token.Quote(s)
	if back, size := token.Quoted(quoted); back != s || size != len(quoted) {
		t.Errorf("%q: %q %d", s, back, size)
	}
	if back, size := token.Quoted(quoted + `"x`); back != s || size != len(quoted) {
		t.Errorf("%q, more behind: %q %d", s, back, size)
	}
	if utf8.ValidString(s) != utf8.ValidString(quoted) {
		t.Errorf("%q: %q", s, quoted)
	}
}
