package ident_test

import (
	"strings"
	"testing"

	"carryall/ident"
)

// P21.1: Of.
func TestOf(t *testing.T) {
	var rising [16]byte
	for k := range rising {
		rising[k] = byte(k*16 + k)
	}
	for _, c := range []struct {
		b    [16]byte
		want string
	}{
		{[16]byte{}, "00000000-0000-4000-8000-000000000000"},
		{rising, "00112233-4455-4677-8899-aabbccddeeff"},
		{[16]byte{0xff, 0xff, 0xff, 0xff, 0xff, 0xff, 0xff, 0xff, 0xff, 0xff, 0xff, 0xff, 0xff, 0xff, 0xff, 0xff}, "ffffffff-ffff-4fff-bfff-ffffffffffff"},
		{[16]byte{6: 0xb5, 7: 0x10, 8: 0x4c, 15: 1}, "00000000-0000-4510-8c00-000000000001"},
		{[16]byte{8: 0x7f}, "00000000-0000-4000-bf00-000000000000"},
	} {
		if got := ident.Of(c.b); got != c.want || !ident.Is(got) {
			t.Errorf("Of(%x): %q", c.b, got)
		}
	}
	for place := range 16 {
		for k := range 256 {
			var b [16]byte
			b[place] = byte(k)
			checkName(t, b, place, byte(k))
		}
	}
}

// checkName looks at the two digits of one byte, and at all others.
func checkName(t *testing.T, b [16]byte, place int, c byte) {
	t.Helper()
	const digits = "0123456789abcdef"
	switch place {
	case 6:
		c = c&0x0f | 0x40
	case 8:
		c = c&0x3f | 0x80
	}
	at := []int{0, 2, 4, 6, 9, 11, 14, 16, 19, 21, 24, 26, 28, 30, 32, 34}[place]
	zero := "00000000-0000-4000-8000-000000000000"
	want := zero[:at] + digits[c>>4:c>>4+1] + digits[c&15:c&15+1] + zero[at+2:]
	if got := ident.Of(b); got != want || !ident.Is(got) {
		t.Errorf("Of(%x): %q, want %q", b, got, want)
	}
}

// P21.1: Is, of a name that is changed at each place to each byte.
func TestIs(t *testing.T) {
	const name = "01234567-89ab-4cde-8f01-23456789abcd"
	for at := range len(name) {
		for k := range 256 {
			c := string([]byte{byte(k)})
			good := "0123456789abcdef"
			switch at {
			case 8, 13, 18, 23:
				good = "-"
			case 14:
				good = "4"
			case 19:
				good = "89ab"
			}
			s := name[:at] + c + name[at+1:]
			if got := ident.Is(s); got != strings.Contains(good, c) {
				t.Errorf("Is(%q): %v", s, got)
			}
		}
		if ident.Is(name[:at]) || ident.Is(name[:at]+name[at+1:]) || ident.Is(name[:at]+"-"+name[at:]) || ident.Is(name[:at]+"0"+name[at:]) {
			t.Errorf("Is at %d", at)
		}
	}
	for _, s := range []string{"", name + "0", name + "-", " " + name, name + "\n", "{" + name + "}", strings.ToUpper(name), strings.ReplaceAll(name, "-", ""), name + name, strings.Repeat("-", 36), strings.Repeat("0", 36), strings.Repeat("0", 1<<16)} {
		if ident.Is(s) {
			t.Errorf("Is(%q)", s)
		}
	}
}
