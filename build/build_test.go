package build_test

import (
	"slices"
	"strings"
	"testing"

	"carryall/api"
	"carryall/build"
	"carryall/data"
	"carryall/mime"
	"carryall/parse"
)

func made(kind, sub string, params ...string) api.Mime {
	m := api.Mime{Type: kind, Sub: sub}
	for k := 0; k+1 < len(params); k += 2 {
		m.Params = append(m.Params, api.Param{Name: params[k], Value: params[k+1]})
	}
	return m
}

// P18.1: the URLs, both ways.
func TestBuild(t *testing.T) {
	for _, c := range []struct {
		m                   api.Mime
		b, escaped, letters string
	}{
		{made("text", "plain"), "a b", "data:text/plain,a%20b", "data:text/plain;base64,YSBi"},
		{made("text", "plain"), "", "data:text/plain,", "data:text/plain;base64,"},
		{made("a", "b"), "a", "data:a/b,a", "data:a/b;base64,YQ=="},
		{made("a", "b", "c", "d"), "ab", "data:a/b;c=d,ab", "data:a/b;c=d;base64,YWI="},
		{made("a", "b", "c", ""), "\x00\xff", "data:a/b;c=\"\",%00%FF", "data:a/b;c=\"\";base64,AP8="},
		{made("a", "b", "c", "d e", "f", "\"\\;"), ",", "data:a/b;c=\"d e\";f=\"\\\"\\\\;\",%2C", "data:a/b;c=\"d e\";f=\"\\\"\\\\;\";base64,LA=="},
		{made("a", "b", "base64", "x"), "a", "data:a/b;base64=x,a", "data:a/b;base64=x;base64,YQ=="},
		{made("a", "base64"), "YQ", "data:a/base64,YQ", "data:a/base64;base64,WVE="},
		{made("a", "b", "c", ";base64"), "YQ", "data:a/b;c=\";base64\",YQ", "data:a/b;c=\";base64\";base64,WVE="},
		{made("a", "b", "c", "base64"), "YQ", "data:a/b;c=base64,YQ", "data:a/b;c=base64;base64,WVE="},
		{made("a", "b", "c", "%41"), "%41", "data:a/b;c=%41,%2541", "data:a/b;c=%41;base64,JTQx"},
	} {
		for _, base := range []bool{false, true} {
			want := c.escaped
			if base {
				want = c.letters
			}
			if got, e := build.Build(c.m, []byte(c.b), base); e != api.OK || got != want {
				t.Errorf("Build(%v, %q, %v): %q %v", c.m, c.b, base, got, e)
			}
		}
	}
}

// P18.1: each byte, escaped but letters, digits and - . _ ~.
func TestEachByte(t *testing.T) {
	const plain = "ABCDEFGHIJKLMNOPQRSTUVWXYZabcdefghijklmnopqrstuvwxyz0123456789-._~"
	const hex = "0123456789ABCDEF"
	for k := range 256 {
		c := byte(k)
		want := "%" + hex[c>>4:c>>4+1] + hex[c&15:c&15+1]
		if strings.IndexByte(plain, c) >= 0 {
			want = string([]byte{c})
		}
		if got, e := build.Build(made("a", "b"), []byte{c}, false); e != api.OK || got != "data:a/b,"+want {
			t.Errorf("%x: %q %v", k, got, e)
		}
	}
}

// P18.1: the errors, in their order.
func TestErrors(t *testing.T) {
	long := strings.Repeat("a", api.MaxText)
	for _, c := range []struct {
		m    api.Mime
		b    string
		want api.Errno
	}{
		{api.Mime{}, "", api.ErrArg},
		{made("A", "b"), "", api.ErrArg},
		{made("a", ""), "", api.ErrArg},
		{made("a", "b", "C", "d"), "", api.ErrArg},
		{made("a", "b", "c", "\x01"), "", api.ErrArg},
		{made("a", "b", "c", "d", "c", "e"), "", api.ErrArg},
		{made("A", "b"), long, api.ErrArg},
		{made("a", "b"), long, api.ErrLong},
		{made("a", "b"), long + long, api.ErrLong},
		{made("#", "b"), long, api.ErrLong},
		{made("a", "b", "c", "é"), long, api.ErrLong},
		{made("a", "b", "c", long), "", api.ErrLong},
		{made("#", "b"), "", api.ErrForm},
		{made("a", "b#"), "", api.ErrForm},
		{made("a", "b", "c#", "d"), "", api.ErrForm},
		{made("a", "b", "c", "#"), "", api.ErrForm},
		{made("a", "b", "c", ","), "", api.ErrForm},
		{made("a", "b", "c", "x,y"), "z", api.ErrForm},
		{made("a", "b", "c", " ?"), "", api.ErrForm},
		{made("a", "b", "c", "é"), "", api.ErrForm},
		{made("a", "b", "c", "\t"), "", api.ErrForm},
		{made("a", "b", "c", "a\tb"), "", api.ErrForm},
		{made("a", "b", "c", "\u0080"), "", api.ErrForm},
	} {
		for _, base := range []bool{false, true} {
			if got, e := build.Build(c.m, []byte(c.b), base); e != c.want || got != "" {
				t.Errorf("Build of %.60v, %v: %.60q %v, want %v", mime.Print(c.m), base, got, e, c.want)
			}
		}
	}
}

// P18.1: the longest URL that there is, and the shortest that there isn't.
func TestLongest(t *testing.T) {
	m := made("a", "b")
	room := api.MaxText - len("data:a/b,")
	for _, c := range []struct {
		b    string
		base bool
		want api.Errno
	}{
		{strings.Repeat("a", room), false, api.OK},
		{strings.Repeat("a", room+1), false, api.ErrLong},
		{strings.Repeat(" ", room/3) + strings.Repeat("a", room%3), false, api.OK},
		{strings.Repeat(" ", room/3+1), false, api.ErrLong},
		{strings.Repeat("a", (room-7)/4*3), true, api.OK},
		{strings.Repeat("a", (room-7)/4*3+1), true, api.ErrLong},
	} {
		s, e := build.Build(m, []byte(c.b), c.base)
		if e != c.want || e != api.OK && s != "" || e == api.OK && len(s) > api.MaxText {
			t.Errorf("%d bytes, %v: %d %v", len(c.b), c.base, len(s), e)
		}
	}
}

// P18.1: Plain.
func TestPlain(t *testing.T) {
	for _, c := range []struct {
		m    api.Mime
		want bool
	}{
		{made("a", "b"), true},
		{made("a", "b", "c", ""), true},
		{made("a", "b", "c", "xyz"), true},
		{made("a", "b", "c", " !\"$%&'()*+-./0:;<=>@A[\\]^_`a{|}~"), true},
		{made("a", "base64"), true},
		{made("base64", "b"), true},
		{made("a", "b", "c", "base64"), true},
		{made("a", "b", "base64x", "c"), true},
		{made("a", "b", "base64", "c"), false},
		{made("a", "b", "c", "d", "base64", ""), false},
		{made("a#", "b"), false},
		{made("a", "#b"), false},
		{made("a", "b", "c#", "d"), false},
		{made("a", "b", "c", "d", "#", "d"), false},
		{made("a", "b", "c", "#"), false},
		{made("a", "b", "c", "x,"), false},
		{made("a", "b", "c", "?"), false},
		{made("a", "b", "c", "\t"), false},
		{made("a", "b", "c", "\x7f"), false},
		{made("a", "b", "c", "\x1f"), false},
		{made("a", "b", "c", "é"), false},
		{made("a", "b", "c", "d", "e", "é"), false},
		{api.Mime{}, false},
		{made("A", "b"), false},
		{made("a", ""), false},
		{made("a", "b", "c", "d", "c", "e"), false},
		{made("a", "b", "", "d"), false},
	} {
		if got := build.Plain(c.m); got != c.want {
			t.Errorf("Plain(%v): %v", c.m, got)
		}
	}
}

// P18.2: of a plain type there is one, and it says type and bytes; also of others, if it is.
func TestSays(t *testing.T) {
	values := []string{"", "a", " ", "a ", " a", "\"", "\\", "\\\"", ";", "=", ";base64", "; base64", "base64", "%", "%20", "%2C", "'", "`{}|^", "<>", "/", "//", ":", "@", "#", ",", "?", "é", "\t"}
	bodies := []string{"", "a", " ", "a b", "\x00\xff", "%41", ",", "#", "?", "YQ==", "\n", "é"}
	for _, one := range values {
		for _, two := range values {
			for k, b := range bodies {
				checkSays(t, made("x", "y+z", "n", one, "%", two), b, k%2 == 0)
			}
		}
	}
}

func checkSays(t *testing.T, m api.Mime, b string, base bool) {
	t.Helper()
	s, e := build.Build(m, []byte(b), base)
	if e != api.OK && (build.Plain(m) || e != api.ErrForm || s != "") {
		t.Errorf("%q %q: %q %v", mime.Print(m), b, s, e)
	}
	if e != api.OK {
		return
	}
	u, _ := parse.Parse(s, nil)
	kind, body, e := data.Process(u)
	if e != api.OK || !mime.Same(kind, m) || string(body) != b {
		t.Errorf("%q says %q %q %v", s, mime.Print(kind), body, e)
	}
}

// R3: what is handed in stays.
func TestArgumentsStay(t *testing.T) {
	b := []byte("a bzz")
	room := []api.Param{{Name: "c", Value: "d"}, {Name: "e", Value: "f"}}
	m := api.Mime{Type: "a", Sub: "b", Params: room[:1]}
	build.Build(m, b[:3], true)
	build.Build(m, b[:3], false)
	if string(b) != "a bzz" || !slices.Equal(room, []api.Param{{Name: "c", Value: "d"}, {Name: "e", Value: "f"}}) {
		t.Error("changed")
	}
}
