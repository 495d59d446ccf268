package data_test

import (
	"strings"
	"testing"

	"carryall/api"
	"carryall/data"
	"carryall/mime"
	"carryall/parse"
)

const fallback = "text/plain;charset=US-ASCII"

// P17.1: what URLs say, as they are parsed.
func TestProcess(t *testing.T) {
	for _, c := range []struct{ s, kind, body string }{
		{"data:;base64,YQ", fallback, "a"},
		{"data:,%41", fallback, "A"},
		{"data:,", fallback, ""},
		{"data:,a,b", fallback, "a,b"},
		{"data:, a b ", fallback, " a b"},
		{"data:,a?b", fallback, "a?b"},
		{"data:,a?b,c#d", fallback, "a?b,c"},
		{"data:,a#b", fallback, "a"},
		{"data:,a #b", fallback, "a "},
		{"data:,%zz%4", fallback, "%zz%4"},
		{"data:,é\xff", fallback, "é\ufffd"},
		{"data:,%ff%00", fallback, "\xff\x00"},
		{"data:text/html,<p>", "text/html", "<p>"},
		{"data:TEXT/Html;Charset=X,a", "text/html;charset=X", "a"},
		{"data: text/html ,a", "text/html", "a"},
		{"data:text/html;a=\"b;c\",d", "text/html;a=\"b;c\"", "d"},
		{"data:text/html;a=\"b,c\",d", "text/html;a=b", "c\",d"},
		{"data:text/html;a=b?c,d", "text/html;a=\"b?c\"", "d"},
		{"data:text/html;a=\"b c\",d", "text/html;a=\"b c\"", "d"},
		{"data:text/html;a=%22b,d", "text/html;a=%22b", "d"},
		{"data:text/html;a=é,d", "text/html;a=%C3%A9", "d"},
		{"data:;charset=utf-8,a", "text/plain;charset=utf-8", "a"},
		{"data: ;charset=x,a", "text/plain;charset=x", "a"},
		{"data:;,a", "text/plain", "a"},
		{"data:; ,a", "text/plain", "a"},
		{"data:;;a=b,c", "text/plain;a=b", "c"},
		{"data:charset=utf-8,a", fallback, "a"},
		{"data:text,a", fallback, "a"},
		{"data:text/,a", fallback, "a"},
		{"data:/,a", fallback, "a"},
		{"data:/html,a", fallback, "a"},
		{"data:/text/html,a", fallback, "a"},
		{"data://text/html,a", fallback, "a"},
		{"data:text/html ;a=b,c", "text/html;a=b", "c"},
		{"data:te xt/html,a", fallback, "a"},
		{"data:x/y;base64,YWI=", "x/y", "ab"},
		{"data:x/y;BASE64,YWI", "x/y", "ab"},
		{"data:x/y;bAsE64,YWI", "x/y", "ab"},
		{"data:x/y;a=b;base64,YWI", "x/y;a=b", "ab"},
		{"data:x/y; base64,YWI", "x/y", "ab"},
		{"data:x/y;   base64  ,YWI", "x/y", "ab"},
		{"data:x/y ; base64,YWI", "x/y", "ab"},
		{"data:;base64;base64,YWI", "text/plain", "ab"},
		{"data:;base64;,YWI", "text/plain", "YWI"},
		{"data:x/y;base64;,YWI", "x/y", "YWI"},
		{"data:x/y;base64=1,YWI", "x/y;base64=1", "YWI"},
		{"data:x/y;base64=1;base64,YWI", "x/y;base64=1", "ab"},
		{"data:x/y;base64;a=b,YWI", "x/y;a=b", "YWI"},
		{"data:base64,YWI", fallback, "YWI"},
		{"data: base64,YWI", fallback, "YWI"},
		{"data:x/base64,YWI", "x/base64", "YWI"},
		{"data:x/y;xbase64,YWI", "x/y", "YWI"},
		{"data:x/y;a=base64,YWI", "x/y;a=base64", "YWI"},
		{"data:x/y;base6,YWI", "x/y", "YWI"},
		{"data:x/y;base64x,YWI", "x/y", "YWI"},
		{"data:;base64,", fallback, ""},
		{"data:;base64,YWI%3D", fallback, "ab"},
		{"data:;base64,%59%57%49", fallback, "ab"},
		{"data:;base64,Y W%20I%0A%09%0c", fallback, "ab"},
		{"data:;base64,YR==", fallback, "a"},
		{"data:;base64,YWI#=x", fallback, "ab"},
		{"data:%20text/html,a", "%20text/html", "a"},
		{"data:text/html%3B,a", "text/html%3b", "a"},
	} {
		u, e := parse.Parse(c.s, nil)
		if e != api.OK {
			t.Fatalf("%q: %v", c.s, e)
		}
		m, body, e := data.Process(u)
		if e != api.OK || mime.Print(m) != c.kind || string(body) != c.body {
			t.Errorf("%q: %q %q %v", c.s, mime.Print(m), body, e)
		}
	}
}

func checkError(t *testing.T, u api.Url, want api.Errno) {
	t.Helper()
	m, body, e := data.Process(u)
	if e != want || !mime.Same(m, api.Mime{}) || len(body) != 0 {
		t.Errorf("%v: %v %q %v", u, m, body, e)
	}
}

// P17.1: the errors.
func TestErrors(t *testing.T) {
	for _, s := range []string{
		"data:", "data:a", "data:text/html", "data:;base64", "data:#,a", "data:a#,", "data://h/", "data:%2C", "data:a%2Cb",
		"data:;base64,Y", "data:;base64,YQ=", "data:;base64,Y-Q", "data:;base64,YWI=,", "data:;base64,%ff", "data:;base64,YQ%3", "data:;base64,YQ?", "data:;base64,=", "data:;base64,\xff", "data:;base64,YQ%0b",
	} {
		u, e := parse.Parse(s, nil)
		if e != api.OK {
			t.Fatalf("%q: %v", s, e)
		}
		checkError(t, u, api.ErrForm)
	}
	for _, s := range []string{"http://h/,a", "x:,a", "file:///,a", "about:blank", "blob:,a"} {
		u, _ := parse.Parse(s, nil)
		checkError(t, u, api.ErrArg)
	}
	checkError(t, api.Url{}, api.ErrArg)
	checkError(t, api.Url{Scheme: "Data", Opaque: true, Text: ",a"}, api.ErrArg)
	checkError(t, api.Url{Scheme: "data", Opaque: true, Text: "a", HasFragment: true, Fragment: ","}, api.ErrForm)
}

// P17.1: URLs that are made by hand: bytes that no parsed one has.
func TestByHand(t *testing.T) {
	for _, c := range []struct{ text, kind, body string }{
		{"\t\n\f\r x/y \r\f\n\t,a", "x/y", "a"},
		{"\vx/y,a", fallback, "a"},
		{"x/y;\tbase64,YWI", "x/y", "YWI"},
		{"x/y;\nbase64,YWI", "x/y", "YWI"},
		{"x/y;base64\t,YWI", "x/y", "ab"},
		{"x/y;base64\n,YWI", "x/y", "ab"},
		{"x/y;base64\f,YWI", "x/y", "ab"},
		{"x/y;base64\r,YWI", "x/y", "ab"},
		{"x/y;base64\v,YWI", "x/y", "YWI"},
		{"\t;base64,YWI", fallback, "ab"},
		{"x/y;a=é\u00ff,b", "x/y;a=\"é\u00ff\"", "b"},
		{"data:x/y,data:", fallback, "data:"},
	} {
		m, body, e := data.Process(api.Url{Scheme: "data", Opaque: true, Text: c.text, Port: api.NoPort})
		if e != api.OK || mime.Print(m) != c.kind || string(body) != c.body {
			t.Errorf("%q: %q %q %v", c.text, mime.Print(m), body, e)
		}
	}
	hosted := api.Url{Scheme: "data", HasHost: true, Host: "h", Port: 1, Path: []string{",a", "b"}, HasQuery: true, Query: "q", HasFragment: true, Fragment: "f"}
	if m, body, e := data.Process(hosted); e != api.OK || mime.Print(m) != fallback || string(body) != "a/b?q" {
		t.Errorf("with a host: %v %q %v", m, body, e)
	}
}

// P17.1: Fallback, new each time.
func TestFallback(t *testing.T) {
	m := data.Fallback()
	if mime.Print(m) != fallback || !mime.Right(m) {
		t.Errorf("%q", mime.Print(m))
	}
	m.Params[0].Value = "changed"
	if mime.Print(data.Fallback()) != fallback {
		t.Error("the same memory")
	}
}

// P17.1: long ones.
func TestLong(t *testing.T) {
	u := api.Url{Scheme: "data", Opaque: true, Text: strings.Repeat(" ", 1<<12) + ";" + strings.Repeat(" ", 1<<12) + "base64," + strings.Repeat("YWJj", 1<<12)}
	if _, body, e := data.Process(u); e != api.OK || len(body) != 3<<12 {
		t.Errorf("%d %v", len(body), e)
	}
}
