package mime_test

import (
	"strconv"
	"strings"
	"testing"

	"carryall/api"
	"carryall/mime"
)

func made(kind, sub string, params ...string) api.Mime {
	m := api.Mime{Type: kind, Sub: sub}
	for k := 0; k+1 < len(params); k += 2 {
		m.Params = append(m.Params, api.Param{Name: params[k], Value: params[k+1]})
	}
	return m
}

// P5.1: texts that are types.
func TestParse(t *testing.T) {
	for _, c := range []struct {
		s    string
		want api.Mime
	}{
		{" Text/HTML ; Charset=\"a b\";charset=c", made("text", "html", "charset", "a b")},
		{"a/b", made("a", "b")},
		{"application/x-www-form-urlencoded;boundary=xyz;q=0.5;x=x", made("application", "x-www-form-urlencoded", "boundary", "xyz", "q", "0.5", "x", "x")},
		{"\t\r\n A/B \n\r\t", made("a", "b")},
		{"a/b\r\n;c=d", made("a", "b", "c", "d")},
		{"!#$%&'*+-.^_`|~/~", made("!#$%&'*+-.^_`|~", "~")},
		{"a/b;", made("a", "b")},
		{"a/b;;;", made("a", "b")},
		{"a/b;c", made("a", "b")},
		{"a/b;c;d=e", made("a", "b", "d", "e")},
		{"a/b;c=", made("a", "b")},
		{"a/b;c= ;d=e", made("a", "b", "d", "e")},
		{"a/b;c=;c=d", made("a", "b", "c", "d")},
		{"a/b;=d", made("a", "b")},
		{"a/b;=d;e=f", made("a", "b", "e", "f")},
		{"a/b; \t\r\nc=d", made("a", "b", "c", "d")},
		{"a/b;c =d", made("a", "b")},
		{"a/b;c= d", made("a", "b", "c", " d")},
		{"a/b;c=d \t\r\n;e=f", made("a", "b", "c", "d", "e", "f")},
		{"a/b;c=d e;f=g", made("a", "b", "c", "d e", "f", "g")},
		{"a/b;c=d=e", made("a", "b", "c", "d=e")},
		{"a/b;c=d\"e;f\"", made("a", "b", "c", "d\"e")},
		{"a/b;c=\"\"", made("a", "b", "c", "")},
		{"a/b;c=\"\";c=d", made("a", "b", "c", "")},
		{"a/b;c=\"", made("a", "b", "c", "")},
		{"a/b;c=\"d", made("a", "b", "c", "d")},
		{"a/b;c=\"d;e=f", made("a", "b", "c", "d;e=f")},
		{"a/b;c=\"d;e=f\";g=h", made("a", "b", "c", "d;e=f", "g", "h")},
		{"a/b;c=\"d\"e;f=g", made("a", "b", "c", "d", "f", "g")},
		{"a/b;c=\"d\" e=f;f=g", made("a", "b", "c", "d", "f", "g")},
		{"a/b;c=\"d \" ;f=g", made("a", "b", "c", "d ", "f", "g")},
		{"a/b;c=\"\\\"\\\\\\d\"", made("a", "b", "c", "\"\\d")},
		{"a/b;c=\\\"d;e\\\"", made("a", "b", "c", "\\\"d")},
		{"a/b;C=D;E=f", made("a", "b", "c", "D", "e", "f")},
		{"a/b;c=d;C=e;c=f;g=h;G=i", made("a", "b", "c", "d", "g", "h")},
		{"a/b;c=\u0100;c=d", made("a", "b", "c", "d")},
		{"a/b;c=\"\u0100\";c=d", made("a", "b", "c", "d")},
		{"a/b;c=\x7f;d=\x01;e=f", made("a", "b", "e", "f")},
		{"a/b;c=\xff;e=f", made("a", "b", "e", "f")},
		{"a/b;c=\xc3\xa9", made("a", "b", "c", "\xc3\xa9")},
		{"a/b;c=\u00ff\u0080", made("a", "b", "c", "\u00ff\u0080")},
		{"a/b;c\xc3\xa9=d;e=f", made("a", "b", "e", "f")},
		{"a/b;c(=d;e=f", made("a", "b", "e", "f")},
		{"a/b;c=\xc2\xa0", made("a", "b", "c", "\xc2\xa0")},
		{"a/b;c=d\x0c;e=f", made("a", "b", "e", "f")},
		{"a/b;c=d/e", made("a", "b", "c", "d/e")},
	} {
		got, ok := mime.Parse(c.s)
		if !ok || !mime.Same(got, c.want) {
			t.Errorf("Parse(%q): %q %v", c.s, got, ok)
		}
		if !mime.Right(got) {
			t.Errorf("Parse(%q) isn't right: %q", c.s, got)
		}
	}
}

// P5.1: texts that are none.
func TestParseNone(t *testing.T) {
	for _, s := range []string{
		"", "/", "a", "a/", "/b", " / ", "a /b", "a/ b", "a/b c", "a;b/c", "a;b=c", "a/b/c", "a/b,c", "é/b", "a/é", "a/;b=c", "a/ ;b=c", "\x0ca/b", "a/b\x0c", "\xa0a/b", "a\x00/b", "a/b\xff;c=d", "(a)/b", "a/b@",
	} {
		if got, ok := mime.Parse(s); ok || got.Type != "" || got.Sub != "" || len(got.Params) != 0 {
			t.Errorf("Parse(%q): %q %v", s, got, ok)
		}
	}
}

// P5.1: Right.
func TestRight(t *testing.T) {
	for _, c := range []struct {
		m    api.Mime
		want bool
	}{
		{made("a", "b"), true},
		{made("a", "b", "c", ""), true},
		{made("a", "b", "c", "D;\"\\\t é"), true},
		{made("a", "b", "c", "d", "e", "d"), true},
		{api.Mime{}, false},
		{made("", "b"), false},
		{made("a", ""), false},
		{made("A", "b"), false},
		{made("a", "B"), false},
		{made("a ", "b"), false},
		{made("a", "b/"), false},
		{made("a", "b", "", "d"), false},
		{made("a", "b", "C", "d"), false},
		{made("a", "b", "c=", "d"), false},
		{made("a", "b", "c", "d", "c", "d"), false},
		{made("a", "b", "c", "d", "e", "f", "c", "g"), false},
		{made("a", "b", "c", "\n"), false},
		{made("a", "b", "c", "\xff"), false},
		{made("a", "b", "c", "\u0100"), false},
		{made("a", "b", "c", "d", "e", "\x7f"), false},
	} {
		if got := mime.Right(c.m); got != c.want {
			t.Errorf("Right(%q): %v", c.m, got)
		}
	}
}

// P5.1: Essence, Get, Same.
func TestParts(t *testing.T) {
	m := made("a", "b", "c", "d", "e", "", "c", "f")
	if mime.Essence(m) != "a/b" || mime.Essence(api.Mime{}) != "/" || mime.Essence(made("A", " ")) != "A/ " {
		t.Error("Essence")
	}
	for _, c := range []struct {
		name, want string
		ok         bool
	}{{"c", "d", true}, {"e", "", true}, {"C", "", false}, {"", "", false}, {"f", "", false}} {
		if got, ok := mime.Get(m, c.name); got != c.want || ok != c.ok {
			t.Errorf("Get(%q): %q %v", c.name, got, ok)
		}
	}
	if got, ok := mime.Get(made("a", "b", "", "x"), ""); got != "x" || !ok {
		t.Error("Get of a name that is nothing")
	}
	base := made("a", "b", "c", "d", "e", "f")
	for _, other := range []api.Mime{
		made("A", "b", "c", "d", "e", "f"), made("a", "B", "c", "d", "e", "f"), made("a", "b", "e", "f", "c", "d"), made("a", "b", "c", "d"),
		made("a", "b", "c", "D", "e", "f"), made("a", "b", "C", "d", "e", "f"), made("a", "b", "c", "d", "e", "f", "g", "h"), made("a", "b"),
	} {
		if mime.Same(base, other) || mime.Same(other, base) {
			t.Errorf("Same(%q)", other)
		}
	}
	if !mime.Same(base, made("a", "b", "c", "d", "e", "f")) || !mime.Same(made("a", "b"), api.Mime{Type: "a", Sub: "b", Params: []api.Param{}}) {
		t.Error("Same")
	}
}

// P5.2: Print.
func TestPrint(t *testing.T) {
	for _, c := range []struct {
		m    api.Mime
		want string
	}{
		{made("a", "b"), "a/b"},
		{made("text", "html", "charset", "a b"), "text/html;charset=\"a b\""},
		{made("a", "b", "c", "d", "e", "f"), "a/b;c=d;e=f"},
		{made("a", "b", "c", ""), "a/b;c=\"\""},
		{made("a", "b", "c", "\"\\"), "a/b;c=\"\\\"\\\\\""},
		{made("a", "b", "c", "x;y", "d", "D"), "a/b;c=\"x;y\";d=D"},
		{made("A", "b", "C", "é"), "A/b;C=\"é\""},
		{api.Mime{}, "/"},
	} {
		if got := mime.Print(c.m); got != c.want {
			t.Errorf("Print(%q): %q", c.m, got)
		}
	}
}

// P5.3: a right type, printed, is parsed as it.
func TestThereAndBack(t *testing.T) {
	values := []string{"", "a", "A b", " ", "\t", "\"", "\\", "\\\"", "\"\\\"", ";", "=", "a;b=\"c\"", "é\u0080\u00ff", "base64", ",#?", " a "}
	for _, one := range values {
		for _, two := range values {
			m := made("a", "b+c", "x", one, "y", two, "#", one)
			if !mime.Right(m) {
				t.Fatalf("%q isn't right", m)
			}
			if back, ok := mime.Parse(mime.Print(m)); !ok || !mime.Same(back, m) {
				t.Errorf("%q: %q %v", mime.Print(m), back, ok)
			}
		}
	}
}

// P5.1: many parameters, all of them told, and in their order.
func TestManyParameters(t *testing.T) {
	var s strings.Builder
	s.WriteString("a/b")
	for k := range 3000 {
		s.WriteString(";" + strconv.Itoa(k) + "=1")
	}
	m, ok := mime.Parse(s.String())
	if !ok || len(m.Params) != 3000 || !mime.Right(m) {
		t.Fatalf("%d %v", len(m.Params), ok)
	}
	for k, p := range m.Params {
		if p.Name != strconv.Itoa(k) || p.Value != "1" {
			t.Errorf("%d: %q", k, p)
		}
	}
}

// R3: what is handed in stays.
func TestArgumentsStay(t *testing.T) {
	room := []api.Param{{Name: "a", Value: "b"}, {Name: "c", Value: "d"}}
	m := api.Mime{Type: "x", Sub: "y", Params: room[:1]}
	mime.Print(m)
	mime.Right(m)
	mime.Same(m, m)
	if room[0] != (api.Param{Name: "a", Value: "b"}) || room[1] != (api.Param{Name: "c", Value: "d"}) {
		t.Error("changed")
	}
}
