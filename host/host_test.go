package host_test

import (
	"strings"
	"testing"

	"carryall/host"
)

// P9.1: hosts, of a special scheme and of another one; "-" where there is none. P9.2: parsed again.
func TestParse(t *testing.T) {
	for _, c := range []struct{ s, special, other string }{
		{"EX%41MPLE", "example", "EX%41MPLE"},
		{"example.com", "example.com", "example.com"},
		{"Example.COM.", "example.com.", "Example.COM."},
		{"", "-", ""},
		{"0x7f.1", "127.0.0.1", "0x7f.1"},
		{"0X7F.1", "127.0.0.1", "0X7F.1"},
		{"%30x7f.1", "127.0.0.1", "%30x7f.1"},
		{"1.2.3.4.", "1.2.3.4", "1.2.3.4."},
		{"256", "0.0.1.0", "256"},
		{"1.2.3.4.5", "-", "1.2.3.4.5"},
		{"1.2.3.256", "-", "1.2.3.256"},
		{"a.09", "-", "a.09"},
		{"a.0x", "-", "a.0x"},
		{"1.2.3.a", "1.2.3.a", "1.2.3.a"},
		{".", ".", "."},
		{"[::1]", "[::1]", "[::1]"},
		{"[0:0::01]", "[::1]", "[::1]"},
		{"[ABCD::1.2.3.4]", "[abcd::102:304]", "[abcd::102:304]"},
		{"[", "-", "-"},
		{"[]", "-", "-"},
		{"[::1", "-", "-"},
		{"::1]", "-", "-"},
		{"[::1]]", "-", "-"},
		{"[[::1]]", "-", "-"},
		{"[::1]a", "-", "-"},
		{"a[::1]", "-", "-"},
		{"[a]", "-", "-"},
		{"[%3a%3a1]", "-", "-"},
		{"%5B::1]", "-", "-"},
		{"%5B%3A%3A1%5D", "-", "%5B%3A%3A1%5D"},
		{"a%20b", "-", "a%20b"},
		{"a b", "-", "-"},
		{"a%00b", "-", "a%00b"},
		{"a\x00b", "-", "-"},
		{"a%2Fb", "-", "a%2Fb"},
		{"a%25b", "-", "a%25b"},
		{"a%b", "-", "a%b"},
		{"a%", "-", "a%"},
		{"a%7Fb", "-", "a%7Fb"},
		{"a\x7fb", "-", "a%7Fb"},
		{"a\x01b", "-", "a%01b"},
		{"a\x1fb", "-", "a%1Fb"},
		{"a\xc3\xa9", "-", "a%C3%A9"},
		{"a%c3%a9", "-", "a%c3%a9"},
		{"a\x80", "-", "a%80"},
		{"xn--EX", "xn--ex", "xn--EX"},
		{"a_b-c~!$&'()*+,;=\"`{}", "a_b-c~!$&'()*+,;=\"`{}", "a_b-c~!$&'()*+,;=\"`{}"},
		{"%41%5a%61", "aza", "%41%5a%61"},
	} {
		checkParse(t, c.s, true, c.special)
		checkParse(t, c.s, false, c.other)
	}
}

func checkParse(t *testing.T, s string, special bool, want string) {
	t.Helper()
	got, ok := host.Parse(s, special)
	if want == "-" {
		if ok || got != "" {
			t.Errorf("Parse(%q, %v): %q %v", s, special, got, ok)
		}
		return
	}
	if !ok || got != want {
		t.Errorf("Parse(%q, %v): %q %v", s, special, got, ok)
	}
	if again, ok := host.Parse(got, special); got != "" && (!ok || again != got) {
		t.Errorf("Parse(%q, %v), again: %q %v", got, special, again, ok)
	}
}

// P9.1: every byte, by itself and in a host.
func TestForbidden(t *testing.T) {
	const hosts = "\x00\x09\x0a\x0d #/:<>?@[\\]^|"
	const hex = "0123456789ABCDEF"
	for k := range 256 {
		c := byte(k)
		inHost := strings.IndexByte(hosts, c) >= 0
		inDomain := inHost || c < 0x20 || c == 0x7F || c == '%'
		if got := host.Forbidden(c, false); got != inHost {
			t.Errorf("Forbidden(%x, false): %v", c, got)
		}
		if got := host.Forbidden(c, true); got != inDomain {
			t.Errorf("Forbidden(%x, true): %v", c, got)
		}
		for _, s := range []string{"a" + string([]byte{c}) + "b", "ab" + string([]byte{c}), string([]byte{c}) + "ab"} {
			if _, ok := host.Parse(s, false); ok == inHost {
				t.Errorf("Parse(%q, false): %v", s, ok)
			}
			if _, ok := host.Parse(s, true); ok != (!inDomain && c < 0x7F) {
				t.Errorf("Parse(%q, true): %v", s, ok)
			}
		}
		escaped := "a%" + hex[c>>4:c>>4+1] + hex[c&15:c&15+1] + "b"
		if _, ok := host.Parse(escaped, true); ok != (!inDomain && c < 0x7F) {
			t.Errorf("Parse(%q, true): %v", escaped, ok)
		}
		if got, ok := host.Parse(escaped, false); !ok || got != escaped {
			t.Errorf("Parse(%q, false): %q %v", escaped, got, ok)
		}
	}
}
