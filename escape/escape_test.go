package escape_test

import (
	"strings"
	"testing"

	"carryall/escape"
)

// The sets as the chapter lists them, each whole.
const (
	query    = " \"#<>"
	path     = " \"#<>?^`{}"
	userinfo = " \"#<>?^`{}/:;=@[\\]|"
)

var sets = []struct {
	set  int
	more string
}{
	{escape.Control, ""},
	{escape.Fragment, " \"<>`"},
	{escape.Query, query},
	{escape.Special, query + "'"},
	{escape.Path, path},
	{escape.Userinfo, userinfo},
	{escape.Component, userinfo + "$%&+,"},
}

func hex(c byte) string {
	const digits = "0123456789ABCDEF"
	return "%" + digits[c>>4:c>>4+1] + digits[c&15:c&15+1]
}

// P2.1: In and Encode of every byte in every set, and in those that there aren't.
func TestSets(t *testing.T) {
	for number, row := range sets {
		if row.set != number {
			t.Errorf("set %d is numbered %d", number, row.set)
		}
		for k := 0; k < 256; k++ {
			c := byte(k)
			want := c < 0x20 || c > 0x7E || strings.IndexByte(row.more, c) >= 0
			if got := escape.In(row.set, c); got != want {
				t.Errorf("In(%d, %x): %v", row.set, c, got)
			}
			text := string([]byte{c})
			if want {
				text = hex(c)
			}
			if got := escape.Encode(row.set, []byte{'a', c, '~'}); got != "a"+text+"~" {
				t.Errorf("Encode(%d, %x): %q", row.set, c, got)
			}
		}
	}
	for _, none := range []int{-1, 7, 8, 1 << 40, -1 << 62} {
		for k := 0; k < 256; k++ {
			if escape.In(none, byte(k)) {
				t.Errorf("In(%d, %x)", none, k)
			}
		}
		if got := escape.Encode(none, []byte("\x00 %\xff")); got != "\x00 %\xff" {
			t.Errorf("Encode(%d): %q", none, got)
		}
	}
}

// P2.1: texts.
func TestEncode(t *testing.T) {
	for _, c := range []struct {
		set     int
		b, want string
	}{
		{escape.Path, "a b", "a%20b"},
		{escape.Path, "", ""},
		{escape.Path, "100%", "100%"},
		{escape.Component, "100%", "100%25"},
		{escape.Control, "a b\x7f\xc3\xa9", "a b%7F%C3%A9"},
		{escape.Query, "it's", "it's"},
		{escape.Special, "it's", "it%27s"},
		{escape.Fragment, "#`", "#%60"},
		{escape.Userinfo, "a:b@c", "a%3Ab%40c"},
	} {
		if got := escape.Encode(c.set, []byte(c.b)); got != c.want {
			t.Errorf("Encode(%d, %q): %q", c.set, c.b, got)
		}
	}
}

// P2.1: Decode, read from the left.
func TestDecode(t *testing.T) {
	for _, c := range []struct{ s, want string }{
		{"", ""},
		{"%4g%41", "%4gA"},
		{"%g4", "%g4"},
		{"%41", "A"},
		{"%4", "%4"},
		{"%", "%"},
		{"a%", "a%"},
		{"a%4", "a%4"},
		{"%%41", "%A"},
		{"%%%41", "%%A"},
		{"%2541", "%41"},
		{"%4%41", "%4A"},
		{"%25%34%31", "%41"},
		{"%aF%Af%ff%FF%00", "\xaf\xaf\xff\xff\x00"},
		{"a+b", "a+b"},
		{"\xff%20\x00", "\xff \x00"},
	} {
		if got := escape.Decode(c.s); string(got) != c.want {
			t.Errorf("Decode(%q): %q", c.s, got)
		}
	}
	for k := 0; k < 256; k++ {
		for j := 0; j < 256; j++ {
			s := "%" + string([]byte{byte(k), byte(j)})
			want := s
			if high, low := strings.IndexByte("0123456789abcdef", lower(byte(k))), strings.IndexByte("0123456789abcdef", lower(byte(j))); high >= 0 && low >= 0 {
				want = string([]byte{byte(high*16 + low)})
			}
			if got := escape.Decode(s + "z"); string(got) != want+"z" {
				t.Errorf("Decode(%q): %q", s, got)
			}
		}
	}
}

func lower(c byte) byte {
	if c >= 'A' && c <= 'F' {
		return c + 32
	}
	return c
}

// What COMPONENT has escaped comes back, whatever it is.
func TestThereAndBack(t *testing.T) {
	all := make([]byte, 256)
	for k := range all {
		all[k] = byte(k)
	}
	if got := escape.Decode(escape.Encode(escape.Component, all)); string(got) != string(all) {
		t.Errorf("%q", got)
	}
}

// R3: the bytes that are handed in stay, their spare room too.
func TestArgumentsStay(t *testing.T) {
	b := []byte("a b\xffzz")
	escape.Encode(escape.Path, b[:4])
	if string(b) != "a b\xffzz" {
		t.Errorf("%q", b)
	}
}
