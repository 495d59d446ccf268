package base_test

import (
	"encoding/base64"
	"strings"
	"testing"

	"carryall/base"
)

// P3.1, P3.2: against the library's letters, for every length and every byte.
func TestEncode(t *testing.T) {
	for _, c := range []struct{ b, want string }{
		{"", ""},
		{"a", "YQ=="},
		{"ab", "YWI="},
		{"abc", "YWJj"},
		{"abcd", "YWJjZA=="},
		{"\xff\xff\xff", "////"},
		{"\xfb\xef\xbe", "++++"},
		{"\x00\x00", "AAA="},
	} {
		if got := base.Encode([]byte(c.b)); got != c.want {
			t.Errorf("Encode(%q): %q", c.b, got)
		}
	}
	all := make([]byte, 0, 512)
	for k := range 256 {
		all = append(all, byte(k), byte(k*7+3))
	}
	for from := range 20 {
		for to := from; to <= len(all); to += 1 + from {
			checkThereAndBack(t, all[from:to])
		}
	}
}

func checkThereAndBack(t *testing.T, b []byte) {
	t.Helper()
	text := base.Encode(b)
	if want := base64.StdEncoding.EncodeToString(b); text != want {
		t.Errorf("Encode(% x): %q, want %q", b, text, want)
	}
	if back, ok := base.Decode(text); !ok || string(back) != string(b) {
		t.Errorf("Decode(%q): % x %v", text, back, ok)
	}
}

// P3.1: texts that are forgiven.
func TestForgiven(t *testing.T) {
	for _, c := range []struct{ s, want string }{
		{"", ""},
		{" \t\n\f\r", ""},
		{"YQ==", "a"},
		{"YQ", "a"},
		{" Y Q ", "a"},
		{"YR==", "a"},
		{"YV", "a"},
		{"Yf", "a"},
		{"Y\tQ\n=\f=\r", "a"},
		{"YWI=", "ab"},
		{"YWI", "ab"},
		{"YWJ", "ab"},
		{"YWL", "ab"},
		{"YWJj", "abc"},
		{"YWJjYQ==", "abca"},
		{"YWJjYQ", "abca"},
		{"YWJjYWI", "abcab"},
		{"//8", "\xff\xff"},
		{"////", "\xff\xff\xff"},
		{"++++", "\xfb\xef\xbe"},
		{"AAAA", "\x00\x00\x00"},
	} {
		if got, ok := base.Decode(c.s); !ok || string(got) != c.want {
			t.Errorf("Decode(%q): %q %v", c.s, got, ok)
		}
	}
}

// P3.1: texts that aren't.
func TestNotForgiven(t *testing.T) {
	for _, s := range []string{
		"Y", "YWJjY", "=", "==", "===", "====", "YQ=", "YQ===", "YQ====", "Y===", "YWI==", "YWJj=", "YWJj==", "YWJj====",
		"Y=Q=", "=YQ=", "YQ==YQ==", "Y-", "Y_", "YQ==\x00", "YQ\x0b=", "YQ==\xc2\xa0", "Y\xff", "YQ%", "YQ\x00\x00", "Y:Z@", "[`{Y", "YW.j", "ABC ==",
	} {
		if got, ok := base.Decode(s); ok || len(got) != 0 {
			t.Errorf("Decode(%q): %q %v", s, got, ok)
		}
	}
}

// P3.1: each byte by itself is a letter, a blank, or nothing that is forgiven.
func TestEachByte(t *testing.T) {
	const letters = "ABCDEFGHIJKLMNOPQRSTUVWXYZabcdefghijklmnopqrstuvwxyz0123456789+/"
	for k := range 256 {
		c := string([]byte{byte(k)})
		at := strings.Index(letters, c)
		got, ok := base.Decode("AAA" + c)
		if at >= 0 && (!ok || string(got) != "\x00\x00"+string([]byte{byte(at)})) {
			t.Errorf("letter %x: % x %v", k, got, ok)
		}
		blank := strings.Contains("\t\n\f\r ", c)
		if at < 0 && c != "=" && ok != blank {
			t.Errorf("byte %x: % x %v", k, got, ok)
		}
	}
}

// R3: what is answered is new.
func TestArgumentsStay(t *testing.T) {
	b := []byte("abcdzz")
	base.Encode(b[:4])
	if string(b) != "abcdzz" {
		t.Errorf("%q", b)
	}
}
