package windows_test

import (
	"slices"
	"strings"
	"testing"

	"carryall/api"
	"carryall/parse"
	"carryall/url"
	"carryall/windows"
)

// fine are paths that are fine, with their URLs.
var fine = []struct{ p, url string }{
	{"c:/a b\\d", "file:///c:/a%20b/d"},
	{"C:\\", "file:///C:/"},
	{"C:/", "file:///C:/"},
	{"z:\\a", "file:///z:/a"},
	{"x:\\x\\yx", "file:///x:/x/yx"},
	{"C:\\a\\", "file:///C:/a/"},
	{"C:/a/b\\", "file:///C:/a/b/"},
	{"C:\\...", "file:///C:/..."},
	{"C:\\.a\\a.\\..b", "file:///C:/.a/a./..b"},
	{"C:\\%2e\\%2E%2e\\100%", "file:///C:/%252e/%252E%252e/100%25"},
	{"C:\\é€", "file:///C:/%C3%A9%E2%82%AC"},
	{"C:\\ a ", "file:///C:/%20a%20"},
	{"C:\\a#b^`{}'\x7f", "file:///C:/a%23b%5E%60%7B%7D'%7F"},
	{"C:\\!$&()+,-;=@[]_~", "file:///C:/!$&()+,-;=@[]_~"},
	{"\\\\host\\share", "file://host/share"},
	{"//host/share", "file://host/share"},
	{"\\/host/share\\", "file://host/share/"},
	{"/\\host\\share/a b\\c", "file://host/share/a%20b/c"},
	{"\\\\a-b.example.com.\\s", "file://a-b.example.com./s"},
	{"\\\\1.2.3.4\\s", "file://1.2.3.4/s"},
	{"\\\\c\\s", "file://c/s"},
	{"\\\\localhost.\\s", "file://localhost./s"},
	{"\\\\h\\c%7C", "file://h/c%257C"},
	{"\\\\-\\.s", "file://-/.s"},
}

// P16.1: Url; P16.2: and back, with \ for each /, also if it is written, and parsed.
func TestUrl(t *testing.T) {
	for _, c := range fine {
		if !windows.Fine(c.p) {
			t.Errorf("Fine(%q)", c.p)
		}
		u, e := windows.Url(c.p)
		if e != api.OK || url.Print(u) != c.url {
			t.Errorf("Url(%q): %q %v", c.p, url.Print(u), e)
		}
		if !u.HasHost || u.Port != api.NoPort || u.Opaque || u.HasQuery || u.HasFragment || u.Username != "" || u.Password != "" || u.Text != "" {
			t.Errorf("Url(%q): %v", c.p, u)
		}
		want := strings.ReplaceAll(c.p, "/", "\\")
		checkBack(t, u, want)
		again, e := parse.Parse(url.Print(u), nil)
		if e != api.OK || !url.Same(u, again) {
			t.Errorf("%q, parsed: %v %v", c.p, again, e)
		}
		checkBack(t, again, want)
	}
}

func checkBack(t *testing.T, u api.Url, want string) {
	t.Helper()
	if got, e := windows.Path(u); e != api.OK || got != want {
		t.Errorf("Path of %q: %q %v", want, got, e)
	}
}

func checkNotFine(t *testing.T, p string) {
	t.Helper()
	if windows.Fine(p) {
		t.Errorf("Fine(%q)", p)
	}
	if u, e := windows.Url(p); e != api.ErrForm || u.Scheme != "" || u.HasHost || u.Host != "" || u.Port != 0 || len(u.Path) != 0 {
		t.Errorf("Url(%q): %v %v", p, u, e)
	}
}

// P16.1: paths that aren't fine.
func TestNotFine(t *testing.T) {
	for _, p := range []string{
		"", "a", "\\", "/", "\\a", "/a", "C", "C:", "C:a", "C|\\a", "C|/", "1:\\a", "é:\\a", "CC:\\a", "\\C:\\a", "/C:/a", " C:\\", "c%3A\\a",
		"C:\\\\", "C:\\\\a", "C://a", "C:\\a\\\\b", "C:\\a/\\b", "C:\\a\\\\", "C:\\.", "C:\\..", "C:\\.\\a", "C:\\a\\..", "C:\\a\\..\\b", "C:\\./", "C:\\\xff", "C:\\a\\\xc3",
		"\\\\", "\\\\\\", "\\\\h", "\\\\h\\", "//h/", "\\\\h\\\\", "\\\\h\\\\a", "\\\\\\s", "\\\\\\s\\a", "\\\\h\\s\\\\a", "\\\\h\\s\\\\", "\\\\h\\.", "\\\\h\\..", "\\\\h\\s\\..", "\\h\\s", "h\\s", "\\\\\\h\\s",
		"\\\\H\\s", "\\\\Host\\s", "\\\\localhost\\s", "//localhost/s", "\\\\LOCALHOST\\s", "\\\\1.2.3\\s", "\\\\127.1\\s", "\\\\01.2.3.4\\s", "\\\\1.2.3.4.\\s", "\\\\1.2.3.256\\s", "\\\\0x7f\\s", "\\\\h.1\\s",
		"\\\\a_b\\s", "\\\\a b\\s", "\\\\a%41\\s", "\\\\é\\s", "\\\\[::1]\\s", "\\\\a:80\\s", "\\\\u@h\\s", "\\\\?\\C:\\a", "\\\\a~\\s", "\\\\a+b\\s", "\\\\C:\\s", "\\\\h\\C:", "\\\\h\\s\\c:\\a", "\\\\h\\\xff",
	} {
		checkNotFine(t, p)
	}
}

// P16.1: each byte of a component.
func TestFree(t *testing.T) {
	const barred = "<>:\"|?*"
	for k := range 0x80 {
		c := string([]byte{byte(k)})
		if c == "/" || c == "\\" {
			continue
		}
		for _, p := range []string{"C:\\" + c + "b", "C:\\a" + c, "C:\\a" + c + "b", "C:\\a\\x" + c + "y\\b", "\\\\h\\a" + c + "b", "\\\\h\\s\\a" + c + "b"} {
			if k < 0x20 || strings.Contains(barred, c) {
				checkNotFine(t, p)
			} else if !windows.Fine(p) {
				t.Errorf("Fine(%q)", p)
			}
		}
	}
	for k := 0x80; k < 0x100; k++ {
		checkNotFine(t, "C:\\a"+string([]byte{byte(k)}))
	}
}

// P16.1: each byte of a host.
func TestHosts(t *testing.T) {
	const good = "abcdefghijklmnopqrstuvwxyz0123456789-."
	for k := range 256 {
		c := string([]byte{byte(k)})
		if c == "\\" || c == "/" {
			continue
		}
		for _, p := range []string{"\\\\a" + c + "b\\s", "\\\\" + c + "ab\\s", "//ab" + c + "/s"} {
			if got := windows.Fine(p); got != strings.Contains(good, c) {
				t.Errorf("Fine(%q): %v", p, got)
			}
		}
	}
}

func file(host string, path ...string) api.Url {
	return api.Url{Scheme: "file", HasHost: true, Host: host, Port: api.NoPort, Path: path}
}

// P16.1: Path of URLs, and its errors.
func TestPath(t *testing.T) {
	opaque, other, bare, hidden := file("", "c:", "a"), file("", "c:", "a"), file("", "c:", "a"), file("h", "s")
	opaque.Opaque, opaque.Text = true, "c:/a"
	other.Scheme = "http"
	bare.HasHost, hidden.HasHost = false, false
	more := file("", "c:", "a")
	more.HasQuery, more.Query, more.HasFragment, more.Fragment, more.Port = true, "q", true, "f", 8
	for _, c := range []struct {
		u    api.Url
		want string
	}{
		{file("", "c:", "a"), "c:\\a"},
		{file("", "c:", ""), "c:\\"},
		{file("", "C:", "a", ""), "C:\\a\\"},
		{file("", "c:", "%41%20%e2%82%ac%zz"), "c:\\A €%zz"},
		{file("h", "s"), "\\\\h\\s"},
		{file("h", "%53", ""), "\\\\h\\S\\"},
		{file("1.2.3.4", "s", "a%20b"), "\\\\1.2.3.4\\s\\a b"},
		{bare, "c:\\a"},
		{hidden, "\\\\h\\s"},
		{more, "c:\\a"},
	} {
		checkBack(t, c.u, c.want)
	}
	for _, u := range []api.Url{
		opaque, other, {}, file(""), file("h"), file("", "c:"), file("", ""), file("", "a"), file("", "a", "b"), file("", "c|", "a"), file("", "c%3A", "a"), file("", "%63:", "a"),
		file("", "c:", "%5C"), file("", "c:", "a%5cb"), file("", "c:", "a%2fb"), file("", "c:", "a", "b%2F"), file("", "c:", "a/b"), file("", "c:", "a\\b"),
		file("", "c:", "", "a"), file("", "c:", "."), file("", "c:", "%2e%2e"), file("", "c:", "a%00"), file("", "c:", "%ff"), file("", "c:", "a:b"), file("", "c:", "%7C"), file("", "c:", "a%3Fb"),
		file("h", ""), file("h", "", "a"), file("h", "%5C"), file("h", "s", "%2f"), file("h", "s", ".."), file("H", "s"), file("localhost", "s"), file("[::1]", "s"), file("a_b", "s"), file("127.1", "s"), file("h", "c:"), file("h", "c:", "a"),
	} {
		if got, e := windows.Path(u); got != "" || e != api.ErrForm {
			t.Errorf("Path(%v): %q %v", u, got, e)
		}
	}
}

// R3: the URL that is handed in stays.
func TestArgumentsStay(t *testing.T) {
	room := []string{"c:", "%41", "c"}
	windows.Path(file("", room[:2]...))
	if !slices.Equal(room, []string{"c:", "%41", "c"}) {
		t.Errorf("%q", room)
	}
}

// P16.2: all short paths out of what matters.
func TestThereAndBack(t *testing.T) {
	ends := []string{""}
	for range 5 {
		var longer []string
		for _, p := range ends {
			for _, c := range []string{"/", "\\", ".", "%", "2e", "c", ":", "|"} {
				longer = append(longer, p+c)
			}
		}
		for _, end := range longer {
			checkThereAndBack(t, "c:"+end)
			checkThereAndBack(t, "\\\\h"+end)
		}
		ends = longer
	}
}

func checkThereAndBack(t *testing.T, p string) {
	t.Helper()
	u, e := windows.Url(p)
	if (e == api.OK) != windows.Fine(p) {
		t.Fatalf("Url(%q): %v", p, e)
	}
	if e != api.OK {
		return
	}
	again, _ := parse.Parse(url.Print(u), nil)
	if back, e := windows.Path(again); e != api.OK || back != strings.ReplaceAll(p, "/", "\\") {
		t.Fatalf("%q: %q %v", p, back, e)
	}
}
