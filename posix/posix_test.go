package posix_test

import (
	"slices"
	"strings"
	"testing"

	"carryall/api"
	"carryall/parse"
	"carryall/posix"
	"carryall/url"
)

// fine are paths that are fine, with their URLs.
var fine = []struct{ p, url string }{
	{"/a b/c%", "file:///a%20b/c%25"},
	{"/", "file:///"},
	{"/a", "file:///a"},
	{"/a/", "file:///a/"},
	{"/a/b", "file:///a/b"},
	{"/...", "file:///..."},
	{"/.a/..b/c./d..", "file:///.a/..b/c./d.."},
	{"/%2e/%2E%2e", "file:///%252e/%252E%252e"},
	{"/%41", "file:///%2541"},
	{"/a\\b", "file:///a%5Cb"},
	{"/..\\a", "file:///..%5Ca"},
	{"/C:/a", "file:///C:/a"},
	{"/C|/a", "file:///C%7C/a"},
	{"/a?b#c", "file:///a%3Fb%23c"},
	{"/ a ", "file:///%20a%20"},
	{"/\t\n\r\x01\x1f\x7f", "file:///%09%0A%0D%01%1F%7F"},
	{"/é€\U0001F600", "file:///%C3%A9%E2%82%AC%F0%9F%98%80"},
	{"/\ufffd", "file:///%EF%BF%BD"},
	{"/\"<>^`{}", "file:///%22%3C%3E%5E%60%7B%7D"},
	{"/!$&'()*+,-.:;=@[]_~", "file:///!$&'()*+,-.:;=@[]_~"},
	{"/localhost/a", "file:///localhost/a"},
}

// P15.1: Url; P15.2: and back, also if it is written, and parsed.
func TestUrl(t *testing.T) {
	for _, c := range fine {
		if !posix.Fine(c.p) {
			t.Errorf("Fine(%q)", c.p)
		}
		u, e := posix.Url(c.p)
		if e != api.OK || url.Print(u) != c.url {
			t.Errorf("Url(%q): %q %v", c.p, url.Print(u), e)
		}
		if !u.HasHost || u.Host != "" || u.Port != api.NoPort || u.Opaque || u.HasQuery || u.HasFragment || u.Username != "" || u.Password != "" || u.Text != "" {
			t.Errorf("Url(%q): %v", c.p, u)
		}
		checkBack(t, u, c.p)
		again, e := parse.Parse(url.Print(u), nil)
		if e != api.OK || !url.Same(u, again) {
			t.Errorf("%q, parsed: %v %v", c.p, again, e)
		}
		checkBack(t, again, c.p)
	}
}

func checkBack(t *testing.T, u api.Url, want string) {
	t.Helper()
	if got, e := posix.Path(u); e != api.OK || got != want {
		t.Errorf("Path of %q: %q %v", want, got, e)
	}
}

// P15.1: paths that aren't fine.
func TestNotFine(t *testing.T) {
	for _, p := range []string{
		"", "a", "a/b", "./a", "\\a", "C:/a", "//", "//a", "/a//b", "/a//", "/.", "/..", "/./a", "/../a", "/a/.", "/a/..", "/a/./b", "/a/../b", "/a/./", "/\x00", "/a\x00b", "/a/b\x00", "/\xff", "/a/\xc3", "/\xed\xa0\x80", "\xff/a", " /a",
	} {
		if posix.Fine(p) {
			t.Errorf("Fine(%q)", p)
		}
		if u, e := posix.Url(p); e != api.ErrForm || u.Scheme != "" || u.HasHost || u.Port != 0 || len(u.Path) != 0 {
			t.Errorf("Url(%q): %v %v", p, u, e)
		}
	}
}

// P15.1: each byte of a segment.
func TestSegment(t *testing.T) {
	const escaped = " \"#<>?^`{}%\\|"
	const hex = "0123456789ABCDEF"
	for k := range 256 {
		c := byte(k)
		want := string([]byte{c})
		if c < 0x20 || c > 0x7E || strings.IndexByte(escaped, c) >= 0 {
			want = "%" + hex[c>>4:c>>4+1] + hex[c&15:c&15+1]
		}
		if got := posix.Segment("a" + string([]byte{c})); got != "a"+want {
			t.Errorf("Segment of %x: %q", c, got)
		}
	}
	if posix.Segment("") != "" || posix.Segment("..") != ".." || posix.Segment("a/b") != "a/b" {
		t.Error("Segment")
	}
}

func file(path ...string) api.Url {
	return api.Url{Scheme: "file", HasHost: true, Port: api.NoPort, Path: path}
}

// P15.1: Path of URLs, and its errors.
func TestPath(t *testing.T) {
	far, opaque, other, bare, hidden := file("a"), file("a"), file("a"), file("a"), file("a")
	far.Host = "h"
	opaque.Opaque, opaque.Text, opaque.Host = true, "/a", "h"
	other.Scheme, other.Host = "http", "h"
	bare.HasHost = false
	hidden.HasHost, hidden.Host = false, "h"
	farAndBad := file("a", "", "b")
	farAndBad.Host = "h"
	more := file("a")
	more.HasQuery, more.Query, more.HasFragment, more.Fragment, more.Port, more.Username = true, "q", true, "f", 8, "u"
	for _, c := range []struct {
		u    api.Url
		want string
		e    api.Errno
	}{
		{file("a", "b"), "/a/b", api.OK},
		{file(""), "/", api.OK},
		{file("a", ""), "/a/", api.OK},
		{file("%41%e2%82%ac%zz%"), "/A€%zz%", api.OK},
		{file("C:", "a"), "/C:/a", api.OK},
		{file("a%5Cb", "a\\b"), "/a\\b/a\\b", api.OK},
		{bare, "/a", api.OK},
		{more, "/a", api.OK},
		{file(), "", api.ErrForm},
		{file("a%2Fb"), "", api.ErrForm},
		{file("a%2fb"), "", api.ErrForm},
		{file("a/b"), "", api.ErrForm},
		{file("%2F"), "", api.ErrForm},
		{file("a", "%2F"), "", api.ErrForm},
		{file("a%00"), "", api.ErrForm},
		{file("%ff"), "", api.ErrForm},
		{file("%C3"), "", api.ErrForm},
		{file("%C3", "%A9"), "", api.ErrForm},
		{file("."), "", api.ErrForm},
		{file("a", ".."), "", api.ErrForm},
		{file("%2e"), "", api.ErrForm},
		{file("a", "", "b"), "", api.ErrForm},
		{file("", "a"), "", api.ErrForm},
		{far, "", api.ErrHost},
		{hidden, "", api.ErrHost},
		{farAndBad, "", api.ErrHost},
		{opaque, "", api.ErrForm},
		{other, "", api.ErrForm},
		{api.Url{}, "", api.ErrForm},
	} {
		if got, e := posix.Path(c.u); got != c.want || e != c.e {
			t.Errorf("Path(%v): %q %v", c.u, got, e)
		}
	}
}

// R3: the URL that is handed in stays.
func TestArgumentsStay(t *testing.T) {
	room := []string{"%41", "b", "c"}
	posix.Path(file(room[:2]...))
	if !slices.Equal(room, []string{"%41", "b", "c"}) {
		t.Errorf("%q", room)
	}
}

// P15.2: all short paths out of what matters.
func TestThereAndBack(t *testing.T) {
	paths := []string{"/"}
	for range 5 {
		var longer []string
		for _, p := range paths {
			for _, c := range []string{"/", ".", "%", "2e", "C", ":", "|", "\\", "\x00"} {
				longer = append(longer, p+c)
			}
		}
		for _, p := range longer {
			u, e := posix.Url(p)
			if (e == api.OK) != posix.Fine(p) {
				t.Fatalf("Url(%q): %v", p, e)
			}
			if e != api.OK {
				continue
			}
			again, _ := parse.Parse(url.Print(u), nil)
			if back, e := posix.Path(again); e != api.OK || back != p {
				t.Fatalf("%q: %q %v", p, back, e)
			}
		}
		paths = longer
	}
}
