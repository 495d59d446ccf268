package parse_test

import (
	"slices"
	"strings"
	"testing"

	"carryall/api"
	"carryall/parse"
	"carryall/url"
)

// P12.1: Clean.
func TestClean(t *testing.T) {
	for _, c := range []struct{ s, want string }{
		{"", ""},
		{"a", "a"},
		{" a b ", "a b"},
		{"\x00\x01\x1f a\x20\x00", "a"},
		{"\t\n\r", ""},
		{" \x00", ""},
		{"a\tb\nc\rd", "abcd"},
		{"\t a \n\r", "a"},
		{"a\x00\x0b\x0c\x1fb", "a\x00\x0b\x0c\x1fb"},
		{"a \t", "a"},
		{"a\t b", "a b"},
		{"\x7fa\x7f", "\x7fa\x7f"},
		{"\u00a0a\u00a0", "\u00a0a\u00a0"},
		{"é€\U0001F600", "é€\U0001F600"},
		{"\xff", "\ufffd"},
		{"a\xe2\x82b", "a\ufffdb"},
		{"\xed\xa0\x80", "\ufffd\ufffd\ufffd"},
		{"\xf0\x9f\x98", "\ufffd"},
		{"\xe2\t\x82\xac", "\ufffd\ufffd\ufffd"},
		{"\xef\xbf\xbd", "\ufffd"},
		{"\ufeffa", "\ufeffa"},
	} {
		if got := parse.Clean(c.s); got != c.want {
			t.Errorf("Clean(%q): %q", c.s, got)
		}
	}
	for k := range 256 {
		s := string([]byte{byte(k)})
		want := "a" + s + "b"
		switch {
		case k == 9 || k == 10 || k == 13:
			want = "ab"
		case k >= 0x80:
			want = "a\ufffdb"
		}
		if got := parse.Clean("a" + s + "b"); got != want {
			t.Errorf("%x within: %q", k, got)
		}
		ends := s + "a" + s
		switch {
		case k <= 0x20:
			ends = "a"
		case k >= 0x80:
			ends = "\ufffda\ufffd"
		}
		if got := parse.Clean(s + "a" + s); got != ends {
			t.Errorf("%x at the ends: %q", k, got)
		}
	}
	long := strings.Repeat("a\t", api.MaxText)
	if got := parse.Clean(long); len(got) != api.MaxText {
		t.Errorf("long: %d", len(got))
	}
}

// parsed answers the URL of s with the base of another text, as it is written; "-", if there is none.
func parsed(t *testing.T, s, base string) (api.Url, string) {
	t.Helper()
	var b *api.Url
	if base != "" {
		u, e := parse.Parse(base, nil)
		if e != api.OK {
			t.Fatalf("base %q: %v", base, e)
		}
		b = &u
	}
	u, e := parse.Parse(s, b)
	if e == api.OK {
		return u, url.Print(u)
	}
	if e != api.ErrForm {
		t.Errorf("Parse(%q, %q): %v", s, base, e)
	}
	if u.Scheme != "" || u.Host != "" || u.HasHost || u.Port != 0 || u.Opaque || u.Text != "" || len(u.Path) != 0 || u.HasQuery || u.HasFragment || u.Query != "" || u.Fragment != "" || u.Username != "" || u.Password != "" {
		t.Errorf("Parse(%q, %q): %v beside an error", s, base, u)
	}
	return u, "-"
}

// check looks at the URL of s, and at what holds of all: P12.2, and that what isn't said is zero.
func check(t *testing.T, s, base, want string) {
	t.Helper()
	u, got := parsed(t, s, base)
	if got != want {
		t.Errorf("Parse(%q, %q): %q, want %q", s, base, got, want)
	}
	if got == "-" {
		return
	}
	if !u.HasHost && (u.Host != "" || u.Username != "" || u.Password != "" || u.Port != api.NoPort) || !u.HasQuery && u.Query != "" || !u.HasFragment && u.Fragment != "" || u.Opaque && len(u.Path) > 0 || !u.Opaque && u.Text != "" {
		t.Errorf("Parse(%q, %q): not zero: %v", s, base, u)
	}
	again, e := parse.Parse(got, nil)
	if e != api.OK || !url.Same(again, u) || url.Print(again) != got {
		t.Errorf("%q, parsed again: %q %v", got, url.Print(again), e)
	}
}

type row struct{ s, base, want string }

func checkAll(t *testing.T, rows []row) {
	t.Helper()
	for _, c := range rows {
		check(t, c.s, c.base, c.want)
	}
}

// P12.1: the parts: scheme, query, fragment, rest.
func TestParts(t *testing.T) {
	checkAll(t, []row{
		{"HTTP://a", "", "http://a/"},
		{"hTtPs:a", "", "https://a/"},
		{"a1+-.Z:x", "", "a1+-.z:x"},
		{"x:y:z", "", "x:y:z"},
		{"1a:x", "", "-"},
		{"+a:x", "", "-"},
		{"a_b:x", "", "-"},
		{"a%62:x", "", "-"},
		{"é:x", "", "-"},
		{":x", "", "-"},
		{"a/b:x", "", "-"},
		{"a?b:x", "", "-"},
		{"a#b:x", "", "-"},
		{"http", "", "-"},
		{"", "", "-"},
		{" ", "", "-"},
		{"ht\ttp:\n//a\r/b", "", "http://a/b"},
		{"\x00 http://a\x1f ", "", "http://a/"},
		{"1a:x", "http://h/a/b", "http://h/a/1a:x"},
		{":x", "http://h/a/b", "http://h/a/:x"},
		{"http", "http://h/a/b", "http://h/a/http"},
		{"a_b:x", "http://h/a/b", "http://h/a/a_b:x"},
		{"a/b:x", "http://h/a/b", "http://h/a/a/b:x"},
		{"x:#", "", "x:#"},
		{"x:?", "", "x:?"},
		{"x:?#", "", "x:?#"},
		{"x:#?", "", "x:#?"},
		{"x:a?b?c#d?e#f", "", "x:a?b?c#d?e#f"},
		{"http://a?b/c#d", "", "http://a/?b/c#d"},
		{"http://a#b?c", "", "http://a/#b?c"},
		{"http://u@a?@b", "", "http://u@a/?@b"},
	})
}

// P12.1: how query and fragment are escaped.
func TestQueryAndFragment(t *testing.T) {
	checkAll(t, []row{
		{"http://a?a b\"<>'`{}|^%zz\x7fé#a b\"<>'`{}|^#%zzé", "", "http://a/?a%20b%22%3C%3E%27`{}|^%zz%7F%C3%A9#a%20b%22%3C%3E'%60{}|^#%zz%C3%A9"},
		{"x:?a b\"<>'`\xff#a b'\xff", "", "x:?a%20b%22%3C%3E'`%EF%BF%BD#a%20b'%EF%BF%BD"},
		{"file:?'", "", "file:///?%27"},
		{"ws://a?'", "", "ws://a/?%27"},
		{"x://h?'", "", "x://h?'"},
		{"?'", "http://a/b", "http://a/b?%27"},
		{"?'", "x:/b", "x:/b?'"},
	})
}

// P12.1: way 2, special schemes, and AUTHORITY.
func TestSpecial(t *testing.T) {
	checkAll(t, []row{
		{"http://a/b", "", "http://a/b"},
		{"http:a/b", "", "http://a/b"},
		{"http:/a/b", "", "http://a/b"},
		{"http:///a/b", "", "http://a/b"},
		{"http:\\\\a\\b", "", "http://a/b"},
		{"http:/\\/\\a", "", "http://a/"},
		{"http:", "", "-"},
		{"http:/", "", "-"},
		{"http://", "", "-"},
		{"http:///", "", "-"},
		{"http:?x", "", "-"},
		{"http://?x", "", "-"},
		{"http://a\\b@c", "", "http://a/b@c"},
		{"ftp://EX%41MPLE", "", "ftp://example/"},
		{"wss://0x7f.1", "", "wss://127.0.0.1/"},
		{"http://[::1]/x", "", "http://[::1]/x"},
		{"http://[0::1.2.3.4]:81", "", "http://[::102:304]:81/"},
		{"http://a b/", "", "-"},
		{"http://a%/", "", "-"},
		{"http://é/", "", "-"},
		{"http://1.2.3.4.5/", "", "-"},
		{"http://[::1/", "", "-"},
		{"http://::1]/", "", "-"},
		{"http://[::1]x/", "", "-"},
		{"http:a", "https://h/x/y", "http://a/"},
		{"http:a", "http://h/x/y", "http://h/x/a"},
		{"http:/a", "http://h/x/y", "http://h/a"},
		{"http:\\a", "http://h/x/y", "http://h/a"},
		{"http://a", "http://h/x/y", "http://a/"},
		{"http:/\\a", "http://h/x/y", "http://a/"},
		{"http:\\/a", "http://h/x/y", "http://a/"},
		{"http:\\\\a", "http://h/x/y", "http://a/"},
		{"http:///a", "http://h/x/y", "http://a/"},
		{"http:", "http://h/x/y?q#f", "http://h/x/y?q"},
		{"http:?z", "http://h/x/y?q#f", "http://h/x/y?z"},
		{"HTTP:a", "http://h/x/y", "http://h/x/a"},
		{"http://", "http://h/x/y", "-"},
		{"http:a", "file:///h/x", "http://a/"},
	})
}

// P12.1: credentials, host and port.
func TestAuthority(t *testing.T) {
	checkAll(t, []row{
		{"http://u@a", "", "http://u@a/"},
		{"http://u:p@a", "", "http://u:p@a/"},
		{"http://:p@a", "", "http://:p@a/"},
		{"http://u:@a", "", "http://u@a/"},
		{"http://@a", "", "http://a/"},
		{"http://:@a", "", "http://a/"},
		{"http://u:p:q@a", "", "http://u:p%3Aq@a/"},
		{"http://u@v@a", "", "http://u%40v@a/"},
		{"http://u:p@v@a", "", "http://u:p%40v@a/"},
		{"http://@@a", "", "http://%40@a/"},
		{"http:// u;=é%41'$&+,|[]^:<p>@a", "", "http://%20u%3B%3D%C3%A9%41'$&+,%7C%5B%5D%5E:%3Cp%3E@a/"},
		{"http://@", "", "-"},
		{"http://u@", "", "-"},
		{"http://u@/x", "", "-"},
		{"http://u@:80", "", "-"},
		{"http://u@?x", "", "-"},
		{"x://u@", "", "-"},
		{"x://@", "", "-"},
		{"x://@/y", "", "-"},
		{"x://u:p@h:1/y", "", "x://u:p@h:1/y"},
		{"http://a/u@b", "", "http://a/u@b"},
		{"http://a:", "", "http://a/"},
		{"http://a:/x", "", "http://a/x"},
		{"http://a:80", "", "http://a/"},
		{"http://a:0080", "", "http://a/"},
		{"http://a:8080", "", "http://a:8080/"},
		{"http://a:00000000000000000000008080", "", "http://a:8080/"},
		{"http://a:443", "", "http://a:443/"},
		{"https://a:443", "", "https://a/"},
		{"https://a:80", "", "https://a:80/"},
		{"ftp://a:21", "", "ftp://a/"},
		{"ws://a:80", "", "ws://a/"},
		{"wss://a:443", "", "wss://a/"},
		{"http://a:0", "", "http://a:0/"},
		{"http://a:65535", "", "http://a:65535/"},
		{"http://a:65536", "", "-"},
		{"http://a:99999999999999999999999", "", "-"},
		{"http://a:18446744073709551696", "", "-"},
		{"http://a:8a", "", "-"},
		{"http://a:a", "", "-"},
		{"http://a:-1", "", "-"},
		{"http://a:+1", "", "-"},
		{"http://a: 1", "", "-"},
		{"http://a:1:2", "", "-"},
		{"http://a::1", "", "-"},
		{"http://:80", "", "-"},
		{"http://:", "", "-"},
		{"x://:80", "", "-"},
		{"x://:", "", "-"},
		{"x://:/y", "", "-"},
		{"x://a:", "", "x://a"},
		{"x://a:80", "", "x://a:80"},
		{"x://a:65536", "", "-"},
		{"x://[::1]:80/y", "", "x://[::1]:80/y"},
		{"x://[1:2]", "", "-"},
		{"x://[::1]:", "", "x://[::1]"},
		{"x://[::1", "", "-"},
		{"x://a[:]b", "", "-"},
		{"http://[[::1]:80]", "", "-"},
		{"http://[:]:80]", "", "-"},
		{"http://u:p@[::1]:81/", "", "http://u:p@[::1]:81/"},
	})
}

// P12.1: way 3, other schemes.
func TestOther(t *testing.T) {
	checkAll(t, []row{
		{"x:", "", "x:"},
		{"x:a b", "", "x:a b"},
		{"x:a  b\x01é\x7f\"<>`{}'^|", "", "x:a  b%01%C3%A9%7F\"<>`{}'^|"},
		{"x:a/../b\\c", "", "x:a/../b\\c"},
		{"x: a", "", "x: a"},
		{"x:a ?b", "", "x:a%20?b"},
		{"x:a #b", "", "x:a%20#b"},
		{"x:a  #b", "", "x:a %20#b"},
		{"x: ?", "", "x:%20?"},
		{"x: #", "", "x:%20#"},
		{"x:a b?c", "", "x:a b?c"},
		{"x:a ", "", "x:a"},
		{"x:a\t#", "", "x:a#"},
		{"x:a \t#", "", "x:a%20#"},
		{"x:\\\\a", "", "x:\\\\a"},
		{"x:/", "", "x:/"},
		{"x:/a/../b/.", "", "x:/b/"},
		{"x:/..", "", "x:/"},
		{"x:/.//a", "", "x:/.//a"},
		{"x:/..//a", "", "x:/.//a"},
		{"x:/a\\b", "", "x:/a\\b"},
		{"x:/\\a", "", "x:/\\a"},
		{"x:/C|/..", "", "x:/"},
		{"x:/C|/a", "", "x:/C|/a"},
		{"x://", "", "x://"},
		{"x:///", "", "x:///"},
		{"x:////a", "", "x:////a"},
		{"x:///a", "", "x:///a"},
		{"x://?q", "", "x://?q"},
		{"x://h", "", "x://h"},
		{"x://axb/cxd", "", "x://axb/cxd"},
		{"x://h/", "", "x://h/"},
		{"x://h/..", "", "x://h/"},
		{"x://H%41/a", "", "x://H%41/a"},
		{"x://é/a", "", "x://%C3%A9/a"},
		{"x://h\\a/b", "", "-"},
		{"x://a b", "", "-"},
		{"x://1.2.3.256", "", "x://1.2.3.256"},
		{"x:a", "x:/b/c", "x:a"},
		{"x:/a", "x://h/c", "x:/a"},
		{"x:", "x://h/c?q", "x:"},
		{"data:,a%20b", "http://h", "data:,a%20b"},
		{"JavaScript:alert(1)", "", "javascript:alert(1)"},
	})
}

// P12.1: way 4 and RELATIVE.
func TestRelative(t *testing.T) {
	const h = "http://u:p@h:81/a/b/c?q#f"
	const x = "x://u:p@h:80/a/b/c?q#f"
	checkAll(t, []row{
		{"d", "", "-"},
		{"/d", "", "-"},
		{"#d", "", "-"},
		{"", h, "http://u:p@h:81/a/b/c?q"},
		{"#", h, "http://u:p@h:81/a/b/c?q#"},
		{"#g", h, "http://u:p@h:81/a/b/c?q#g"},
		{"?", h, "http://u:p@h:81/a/b/c?"},
		{"?r#g", h, "http://u:p@h:81/a/b/c?r#g"},
		{"d", h, "http://u:p@h:81/a/b/d"},
		{"d?r#g", h, "http://u:p@h:81/a/b/d?r#g"},
		{"d/", h, "http://u:p@h:81/a/b/d/"},
		{".", h, "http://u:p@h:81/a/b/"},
		{"./d", h, "http://u:p@h:81/a/b/d"},
		{"..", h, "http://u:p@h:81/a/"},
		{"../d", h, "http://u:p@h:81/a/d"},
		{"../../../../d", h, "http://u:p@h:81/d"},
		{"..\\d", h, "http://u:p@h:81/a/d"},
		{"/d", h, "http://u:p@h:81/d"},
		{"\\d", h, "http://u:p@h:81/d"},
		{"/", h, "http://u:p@h:81/"},
		{"/d/../e", h, "http://u:p@h:81/e"},
		{"//i", h, "http://i/"},
		{"//i:80/d", h, "http://i/d"},
		{"\\\\i", h, "http://i/"},
		{"/\\i", h, "http://i/"},
		{"///i", h, "http://i/"},
		{"//\\/i/d", h, "http://i/d"},
		{"//", h, "-"},
		{"//v@i", h, "http://v@i/"},
		{"//a b", h, "-"},
		{"C|/d", h, "http://u:p@h:81/a/b/C|/d"},
		{"", x, "x://u:p@h:80/a/b/c?q"},
		{"#g", x, "x://u:p@h:80/a/b/c?q#g"},
		{"?r", x, "x://u:p@h:80/a/b/c?r"},
		{"d", x, "x://u:p@h:80/a/b/d"},
		{"..\\d", x, "x://u:p@h:80/a/b/..\\d"},
		{"../d", x, "x://u:p@h:80/a/d"},
		{"/d", x, "x://u:p@h:80/d"},
		{"/", x, "x://u:p@h:80/"},
		{"\\d", x, "x://u:p@h:80/a/b/\\d"},
		{"//i", x, "x://i"},
		{"//i/d", x, "x://i/d"},
		{"///i", x, "x:///i"},
		{"////i", x, "x:////i"},
		{"/\\i", x, "x://u:p@h:80/\\i"},
		{"\\\\i", x, "x://u:p@h:80/a/b/\\\\i"},
		{"//", x, "x://"},
		{"d", "x://h", "x://h/d"},
		{"", "x://h", "x://h"},
		{"..", "x://h", "x://h/"},
		{"?r", "x://h", "x://h?r"},
		{"d", "x:/a/b", "x:/a/d"},
		{"..//d", "x:/a", "x:/.//d"},
		{".//d", "x:/a", "x:/.//d"},
		{"/.//d", "x:/a", "x:/.//d"},
		{"//d", "x:/a", "x://d"},
		{"", "x:/.//a", "x:/.//a"},
		{"", "http://h/a?", "http://h/a?"},
		{"", "http://h/C:", "http://h/C:"},
		{"..", "http://h/C:", "http://h/"},
		{"d", "http://h/C:", "http://h/d"},
	})
}

// P12.1: way 4, with an opaque base.
func TestOpaqueBase(t *testing.T) {
	checkAll(t, []row{
		{"#g", "x:a?q#f", "x:a?q#g"},
		{"#", "x:a?q#f", "x:a?q#"},
		{" #g ", "x:a", "x:a#g"},
		{"#g?h", "x:a", "x:a#g?h"},
		{"#a b", "data:,x", "data:,x#a%20b"},
		{"", "x:a?q#f", "-"},
		{"?", "x:a?q#f", "-"},
		{"?r#g", "x:a?q#f", "-"},
		{"d", "x:a?q#f", "-"},
		{"d#g", "x:a?q#f", "-"},
		{"/d", "x:a?q#f", "-"},
		{"//d", "x:a", "-"},
		{"y:d", "x:a", "y:d"},
		{"http:d", "x:a", "http://d/"},
		{"file:d", "x:a", "file:///d"},
	})
}

// P12.1: FILE without a base, and with one of another scheme.
func TestFile(t *testing.T) {
	rows := []row{
		{"file:///a/b", "", "file:///a/b"},
		{"file:", "", "file:///"},
		{"file:/", "", "file:///"},
		{"file://", "", "file:///"},
		{"file:///", "", "file:///"},
		{"file:////", "", "file:////"},
		{"file:////a", "", "file:////a"},
		{"file:a/b", "", "file:///a/b"},
		{"file:/a/b", "", "file:///a/b"},
		{"file:\\a\\b", "", "file:///a/b"},
		{"file:\\\\h\\b", "", "file://h/b"},
		{"file:/\\h/b", "", "file://h/b"},
		{"file:..", "", "file:///"},
		{"file:../a", "", "file:///a"},
		{"FILE://H%41/b", "", "file://ha/b"},
		{"file://h", "", "file://h/"},
		{"file://h?q#f", "", "file://h/?q#f"},
		{"file://localhost/a", "", "file:///a"},
		{"file://LOCALHOST/a", "", "file:///a"},
		{"file://loc%61lhost", "", "file:///"},
		{"file://localhost.", "", "file://localhost./"},
		{"file://0x7f.1/a", "", "file://127.0.0.1/a"},
		{"file://[::1]/a", "", "file://[::1]/a"},
		{"file://u@h/a", "", "-"},
		{"file://h:80/a", "", "-"},
		{"file://a b/", "", "-"},
		{"file://%/", "", "-"},
		{"file://1.2.3.256/", "", "-"},
		{"file://C:/a", "", "file:///C:/a"},
		{"file://c|/a", "", "file:///c:/a"},
		{"file://C|", "", "file:///C:"},
		{"file://C:", "", "file:///C:"},
		{"file://C|?q", "", "file:///C:?q"},
		{"file://C:\\..\\a", "", "file:///C:/a"},
		{"file://C:x/a", "", "-"},
		{"file:///C|/a", "", "file:///C:/a"},
		{"file:///C:/..", "", "file:///C:/"},
		{"file:///C:/../../a", "", "file:///C:/a"},
		{"file:////C|/a", "", "file:////C|/a"},
		{"file:C|/a", "", "file:///C:/a"},
		{"file:C|", "", "file:///C:"},
		{"file:/C|/a", "", "file:///C:/a"},
		{"file:C|a", "", "file:///C|a"},
		{"file://h/C|/a", "", "file://h/C:/a"},
		{"file://h/C|/../..", "", "file://h/C:/"},
		{"file:///a|/b", "", "file:///a:/b"},
		{"file:///ab|/b", "", "file:///ab|/b"},
		{"file:///a/C|", "", "file:///a/C|"},
		{"file:///a b#f", "", "file:///a%20b#f"},
	}
	checkAll(t, rows)
	for _, c := range rows {
		check(t, c.s, "http://h/x/y?q", c.want)
		check(t, c.s, "x:opaque", c.want)
	}
}

// P12.1: FILE with a base of its scheme.
func TestFileBase(t *testing.T) {
	const d = "file:///D:/x/y?q#f"
	const h = "file://h/x/y?q#f"
	rows := []row{
		{"C|/x", "file:///D:/y", "file:///C:/x"},
		{"", d, "file:///D:/x/y?q"},
		{"#g", d, "file:///D:/x/y?q#g"},
		{"?r", d, "file:///D:/x/y?r"},
		{"?", d, "file:///D:/x/y?"},
		{"z", d, "file:///D:/x/z"},
		{"..", d, "file:///D:/"},
		{"../../../z", d, "file:///D:/z"},
		{"z", "file:///D:", "file:///D:/z"},
		{"..", "file:///D:", "file:///D:/"},
		{"/z", "file:///D:", "file:///D:/z"},
		{"/", "file:///D:", "file:///D:/"},
		{"", "file:///D:", "file:///D:"},
		{"/z", d, "file:///D:/z"},
		{"\\z", d, "file:///D:/z"},
		{"/", d, "file:///D:/"},
		{"/..", d, "file:///D:/"},
		{"/z", "file:///a/D:", "file:///z"},
		{"/z", "file:///a", "file:///z"},
		{"/C|/z", d, "file:///C:/z"},
		{"/C:", d, "file:///C:"},
		{"/C:?r", d, "file:///C:?r"},
		{"/C:\\z", d, "file:///C:/z"},
		{"/C:z", d, "file:///D:/C:z"},
		{"/C|z/..", d, "file:///D:/"},
		{"C|", d, "file:///C:"},
		{"C|#g", d, "file:///C:#g"},
		{"C|\\z", d, "file:///C:/z"},
		{"C|z", d, "file:///D:/x/C|z"},
		{"//i/z", d, "file://i/z"},
		{"\\\\i/z", d, "file://i/z"},
		{"///z", d, "file:///z"},
		{"//", d, "file:///"},
		{"//C|/z", d, "file:///C:/z"},
		{"//localhost/z", h, "file:///z"},
		{"", h, "file://h/x/y?q"},
		{"z", h, "file://h/x/z"},
		{"/z", h, "file://h/z"},
		{"/C|/z", h, "file://h/C:/z"},
		{"C|/z", h, "file://h/C:/z"},
		{"//", h, "file:///"},
		{"///z", h, "file:///z"},
		{"//i/z", h, "file://i/z"},
		{"/z", "file://h/D:/x", "file://h/D:/z"},
		{"z", "file:///", "file:///z"},
		{"", "file:///", "file:///"},
		{"../z", "file:///a|x/b", "file:///z"},
	}
	checkAll(t, rows)
	for _, c := range rows {
		if c.s != "C|/x" && !strings.HasPrefix(c.s, "C|") {
			check(t, "file:"+c.s, c.base, c.want)
		}
	}
	check(t, "file:C|/z", d, "file:///C:/z")
	check(t, "file:C|/z", h, "file://h/C:/z")
	check(t, "http:z", d, "http://z/")
	check(t, "x:z", d, "x:z")
}

// P12.1: the fields, one by one.
func TestFields(t *testing.T) {
	for _, c := range []struct {
		s, base string
		want    api.Url
	}{
		{"http://u:p@h:81/a/?q#f", "", api.Url{Scheme: "http", Username: "u", Password: "p", Host: "h", HasHost: true, Port: 81, Path: []string{"a", ""}, HasQuery: true, HasFragment: true, Query: "q", Fragment: "f"}},
		{"http://h", "", api.Url{Scheme: "http", Host: "h", HasHost: true, Port: -1, Path: []string{""}}},
		{"http://h:0", "", api.Url{Scheme: "http", Host: "h", HasHost: true, Port: 0, Path: []string{""}}},
		{"x:a?", "", api.Url{Scheme: "x", Port: -1, Opaque: true, Text: "a", HasQuery: true}},
		{"x:", "", api.Url{Scheme: "x", Port: -1, Opaque: true}},
		{"x:/#", "", api.Url{Scheme: "x", Port: -1, Path: []string{""}, HasFragment: true}},
		{"x://h", "", api.Url{Scheme: "x", Port: -1, HasHost: true, Host: "h"}},
		{"x://", "", api.Url{Scheme: "x", Port: -1, HasHost: true}},
		{"file:", "", api.Url{Scheme: "file", Port: -1, HasHost: true, Path: []string{""}}},
		{"file://h/", "", api.Url{Scheme: "file", Port: -1, HasHost: true, Host: "h", Path: []string{""}}},
		{"//i", "http://u:p@h:81/a?q#f", api.Url{Scheme: "http", Port: -1, HasHost: true, Host: "i", Path: []string{""}}},
		{"b", "http://u:p@h:81/a?q#f", api.Url{Scheme: "http", Username: "u", Password: "p", Port: 81, HasHost: true, Host: "h", Path: []string{"b"}}},
		{"#g", "x:a?q#f", api.Url{Scheme: "x", Port: -1, Opaque: true, Text: "a", HasQuery: true, Query: "q", HasFragment: true, Fragment: "g"}},
	} {
		u, _ := parsed(t, c.s, c.base)
		if !url.Same(u, c.want) || u.Text != c.want.Text || u.Host != c.want.Host || u.Query != c.want.Query || u.Fragment != c.want.Fragment || !slices.Equal(u.Path, c.want.Path) {
			t.Errorf("Parse(%q, %q): %#v", c.s, c.base, u)
		}
	}
}

// P12.1: ErrLong is asked first, of the bytes as they are handed in.
func TestLong(t *testing.T) {
	for _, c := range []struct {
		s    string
		want api.Errno
	}{
		{"x:" + strings.Repeat("a", api.MaxText-2), api.OK},
		{"x:" + strings.Repeat("a", api.MaxText-1), api.ErrLong},
		{"x:" + strings.Repeat(" ", api.MaxText-1), api.ErrLong},
		{strings.Repeat(" ", api.MaxText-2) + "x:", api.OK},
		{strings.Repeat("a", api.MaxText), api.ErrForm},
		{strings.Repeat("a", api.MaxText+1), api.ErrLong},
		{"x:" + strings.Repeat("\xff", api.MaxText-2), api.OK},
		{"http://" + strings.Repeat("a/../", 13000), api.OK},
		{"http://h/" + strings.Repeat("a/", 16000) + strings.Repeat("../", 11000), api.OK},
	} {
		u, e := parse.Parse(c.s, nil)
		if e != c.want || e != api.OK && u.Scheme != "" {
			t.Errorf("%d bytes: %v, want %v", len(c.s), e, c.want)
		}
	}
	u, e := parse.Parse("x:"+strings.Repeat("\x01", api.MaxText-3)+"a", nil)
	if e != api.OK || len(u.Text) != 3*(api.MaxText-3)+1 {
		t.Errorf("escaped: %d %v", len(u.Text), e)
	}
}

// R3: the base stays, and shares nothing with what is answered.
func TestBaseStays(t *testing.T) {
	for _, c := range []struct{ s, base string }{
		{"", "http://h/a/b?q#f"}, {"#g", "http://h/a/b"}, {"?q", "http://h/a/b"}, {"c", "http://h/a/b"}, {"..", "http://h/a/b"}, {"../c", "http://h/a/b"},
		{"", "file:///C:/a/b"}, {"/c", "file:///C:/a/b"}, {"c", "file:///C:/a/b"}, {"..", "file:///C:"}, {"c", "file:///C:"}, {"", "x:/a/b"}, {"#g", "x:/a"},
	} {
		base, _ := parse.Parse(c.base, nil)
		room := append(slices.Clone(base.Path), "spare", "spare")
		base.Path = room[:len(base.Path)]
		before := slices.Clone(room)
		u, e := parse.Parse(c.s, &base)
		if e != api.OK {
			t.Errorf("%q %q: %v", c.s, c.base, e)
		}
		for k := range u.Path {
			u.Path[k] = "changed"
		}
		_ = append(u.Path, "changed", "changed")
		if !slices.Equal(room, before) || url.Print(base) != c.base {
			t.Errorf("%q: the base %q is %q", c.s, c.base, room)
		}
	}
}

// R1: a base that was made by hand doesn't stop anything.
func TestOddBases(t *testing.T) {
	for _, base := range []api.Url{
		{}, {Scheme: "http"}, {Scheme: "file"}, {Scheme: "file", Opaque: true}, {Scheme: "x", Opaque: true, Path: []string{"a"}}, {Scheme: "x", Path: []string{""}, Port: -5}, {Scheme: "http", Opaque: true, Text: "\xff"},
	} {
		for _, s := range []string{"", "a", "/a", "//a", "/", "#", "?", "file:", "file:a", "file:/a", "http:", "http:a", "C|", "/C|", "..", "\x00", "\xff"} {
			parse.Parse(s, &base)
		}
	}
}
