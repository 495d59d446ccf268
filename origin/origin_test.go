package origin_test

import (
	"testing"

	"carryall/api"
	"carryall/origin"
	"carryall/parse"
)

func tuple(scheme, host string, port int) api.Origin {
	return api.Origin{Scheme: scheme, Host: host, Port: port}
}

// P13.1: Of, of URLs as they are parsed, and how their origins are printed.
func TestOf(t *testing.T) {
	for _, c := range []struct {
		s    string
		want api.Origin
		text string
	}{
		{"blob:https://a:8443/x", tuple("https", "a", 8443), "https://a:8443"},
		{"http://u:p@A/b?q#f", tuple("http", "a", api.NoPort), "http://a"},
		{"http://a:80", tuple("http", "a", api.NoPort), "http://a"},
		{"http://a:0", tuple("http", "a", 0), "http://a:0"},
		{"https://a:80", tuple("https", "a", 80), "https://a:80"},
		{"ftp://a:22/x", tuple("ftp", "a", 22), "ftp://a:22"},
		{"ws://[0::1]:1", tuple("ws", "[::1]", 1), "ws://[::1]:1"},
		{"wss://127.1", tuple("wss", "127.0.0.1", api.NoPort), "wss://127.0.0.1"},
		{"blob:http://u@A:80/x?q#f", tuple("http", "a", api.NoPort), "http://a"},
		{"blob:https:a", tuple("https", "a", api.NoPort), "https://a"},
		{"blob:HTTPS://a", tuple("https", "a", api.NoPort), "https://a"},
	} {
		u, e := parse.Parse(c.s, nil)
		if e != api.OK {
			t.Fatalf("%q: %v", c.s, e)
		}
		o, ok := origin.Of(u)
		if !ok || o != c.want {
			t.Errorf("Of(%q): %v %v", c.s, o, ok)
		}
		if got := origin.Print(o); got != c.text {
			t.Errorf("Print(%v): %q", o, got)
		}
	}
	for _, s := range []string{
		"file:///a", "file://h/a", "data:,x", "about:blank", "javascript:1", "x://h/a", "https+x://h",
		"blob:ftp://a/x", "blob:ws://a/x", "blob:wss://a/x", "blob:file:///x", "blob:blob:https://a/x", "blob:null/x", "blob:", "blob:a", "blob:x://h", "blob:https://", "blob:https://a:99999/x", "blob:/https://a", "blob://https://a",
	} {
		u, e := parse.Parse(s, nil)
		if e != api.OK {
			t.Fatalf("%q: %v", s, e)
		}
		if o, ok := origin.Of(u); ok || o != (api.Origin{}) {
			t.Errorf("Of(%q): %v %v", s, o, ok)
		}
	}
	if o, ok := origin.Of(api.Url{}); ok || o != (api.Origin{}) {
		t.Errorf("Of nothing: %v %v", o, ok)
	}
	opaque := api.Url{Scheme: "blob", Opaque: true, Text: "https://a/x", Port: api.NoPort, Path: []string{"http:b"}}
	if o, ok := origin.Of(opaque); !ok || o != tuple("https", "a", api.NoPort) {
		t.Errorf("by hand: %v %v", o, ok)
	}
}

// P13.1: Tuple and Same.
func TestSame(t *testing.T) {
	a := api.Origin{Scheme: "https", Host: "a", Port: 1, Nonce: 2}
	none := api.Origin{Host: "a", Port: 1, Nonce: 2}
	for _, c := range []struct {
		x, y api.Origin
		want bool
	}{
		{a, a, true},
		{a, api.Origin{Scheme: "https", Host: "a", Port: 1, Nonce: 3}, true},
		{a, api.Origin{Scheme: "http", Host: "a", Port: 1, Nonce: 2}, false},
		{a, api.Origin{Scheme: "https", Host: "b", Port: 1, Nonce: 2}, false},
		{a, api.Origin{Scheme: "https", Host: "a", Port: 2, Nonce: 2}, false},
		{a, api.Origin{Scheme: "https", Host: "a", Port: api.NoPort, Nonce: 2}, false},
		{a, none, false},
		{none, none, true},
		{none, api.Origin{Nonce: 2}, true},
		{none, api.Origin{Host: "b", Port: 3, Nonce: 2}, true},
		{none, api.Origin{Host: "a", Port: 1, Nonce: 3}, false},
		{api.Origin{}, api.Origin{}, true},
		{api.Origin{}, api.Origin{Nonce: -1}, false},
		{api.Origin{Scheme: "x"}, api.Origin{}, false},
	} {
		if origin.Same(c.x, c.y) != c.want || origin.Same(c.y, c.x) != c.want {
			t.Errorf("Same(%v, %v)", c.x, c.y)
		}
	}
	if !origin.Tuple(a) || origin.Tuple(none) || origin.Tuple(api.Origin{}) || !origin.Tuple(api.Origin{Scheme: "x"}) {
		t.Error("Tuple")
	}
}

// P13.1: Print of origins that are made by hand.
func TestPrint(t *testing.T) {
	for _, c := range []struct {
		o    api.Origin
		want string
	}{
		{api.Origin{}, "null"},
		{api.Origin{Host: "a", Port: 1, Nonce: 7}, "null"},
		{tuple("x", "", api.NoPort), "x://"},
		{tuple("x", "h", -2), "x://h:-2"},
		{tuple("x", "h", 65536), "x://h:65536"},
		{tuple("https", "h", 443), "https://h:443"},
		{api.Origin{Scheme: "x", Host: "h", Port: 5, Nonce: 9}, "x://h:5"},
	} {
		if got := origin.Print(c.o); got != c.want {
			t.Errorf("Print(%v): %q", c.o, got)
		}
	}
}
