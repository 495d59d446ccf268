package quad_test

import (
	"strings"
	"testing"

	"carryall/quad"
)

// P7.1: texts, whether they end in a number, and their addresses.
func TestTexts(t *testing.T) {
	const none = -1
	long := strings.Repeat("0", 5000) + "17"
	for _, c := range []struct {
		s       string
		ends    bool
		address int64
	}{
		{"0x7f.1", true, 0x7F000001},
		{"127.0.0.1", true, 0x7F000001},
		{"0.0.0.0", true, 0},
		{"255.255.255.255", true, 0xFFFFFFFF},
		{"1.2.3.4", true, 0x01020304},
		{"1.2.3.4.", true, 0x01020304},
		{"1.2.3.4..", false, none},
		{".1.2.3.4", true, none},
		{"1.2.3.4.5", true, none},
		{"1.2.3.4.5.", true, none},
		{"0.0.0.0.0", true, none},
		{"1.2..4", true, none},
		{"1..2", true, none},
		{"", false, none},
		{".", false, none},
		{"..", false, none},
		{"1..", false, none},
		{"0", true, 0},
		{"0.", true, 0},
		{"00", true, 0},
		{"0x", true, 0},
		{"0X", true, 0},
		{"0x.0X.00.0", true, 0},
		{"x", false, none},
		{"x0", false, none},
		{"0xg", false, none},
		{"0xx", false, none},
		{"0x0x1", false, none},
		{"00x1", false, none},
		{"0xFf", true, 255},
		{"0XaB", true, 0xAB},
		{"0x00000000000000000000000001", true, 1},
		{"017", true, 15},
		{"0017", true, 15},
		{"07", true, 7},
		{"08", true, none},
		{"09", true, none},
		{"018", true, none},
		{"8", true, 8},
		{"10", true, 10},
		{"1a", false, none},
		{"0a", false, none},
		{"a", false, none},
		{"f", false, none},
		{"-1", false, none},
		{"+1", false, none},
		{" 1", false, none},
		{"1 ", false, none},
		{"\xb9", false, none},
		{"4294967295", true, 0xFFFFFFFF},
		{"4294967296", true, none},
		{"0xffffffff", true, 0xFFFFFFFF},
		{"0x100000000", true, none},
		{"037777777777", true, 0xFFFFFFFF},
		{"040000000000", true, none},
		{"18446744073709551616", true, none},
		{"18446744073709551617", true, none},
		{"0x10000000000000001", true, none},
		{"99999999999999999999999999999999999999", true, none},
		{long, true, 15},
		{"1.16777215", true, 0x01FFFFFF},
		{"1.16777216", true, none},
		{"255.16777215", true, 0xFFFFFFFF},
		{"256.1", true, none},
		{"1.2.65535", true, 0x0102FFFF},
		{"1.2.65536", true, none},
		{"1.255.1", true, 0x01FF0001},
		{"1.256.1", true, none},
		{"1.2.3.255", true, 0x010203FF},
		{"1.2.3.256", true, none},
		{"1.2.255.3", true, 0x0102FF03},
		{"1.2.256.3", true, none},
		{"256.2.3.4", true, none},
		{"1.2.18446744073709551617.3", true, none},
		{"18446744073709551617.1", true, none},
		{"a.1", true, none},
		{"a.b.0x", true, none},
		{"a.09", true, none},
		{"1.a", false, none},
		{"1.0xg", false, none},
		{"example.com", false, none},
		{"example.com.", false, none},
		{"example.1.", true, none},
		{"1.2.3.08", true, none},
		{"1.2.3.0x", true, 0x01020300},
		{"0x1.0x2.0x3.0x4", true, 0x01020304},
		{"01.02.03.04", true, 0x01020304},
		{"010.0x10.10", true, 0x0810000A},
		{"1:2", false, none},
		{"1,2", false, none},
	} {
		if got := quad.Ends(c.s); got != c.ends {
			t.Errorf("Ends(%q): %v", c.s, got)
		}
		got, ok := quad.Parse(c.s)
		if ok != (c.address != none) || ok && int64(got) != c.address || !ok && got != 0 {
			t.Errorf("Parse(%q): %x %v", c.s, got, ok)
		}
	}
}

// P7.1: Print; P7.2: and back.
func TestPrint(t *testing.T) {
	for _, c := range []struct {
		n    uint32
		want string
	}{
		{0, "0.0.0.0"},
		{0x7F000001, "127.0.0.1"},
		{0xFFFFFFFF, "255.255.255.255"},
		{0x01020304, "1.2.3.4"},
		{0x80FE6409, "128.254.100.9"},
	} {
		if got := quad.Print(c.n); got != c.want {
			t.Errorf("Print(%x): %q", c.n, got)
		}
	}
	n := uint32(0)
	for range 20000 {
		if back, ok := quad.Parse(quad.Print(n)); !ok || back != n || !quad.Ends(quad.Print(n)) {
			t.Fatalf("%x: %x %v", n, back, ok)
		}
		n = n*1664525 + 1013904223
	}
	for shift := range 32 {
		for _, n := range []uint32{1 << shift, 1<<shift - 1, ^uint32(0) << shift} {
			if back, ok := quad.Parse(quad.Print(n)); !ok || back != n {
				t.Errorf("%x: %x %v", n, back, ok)
			}
		}
	}
}
