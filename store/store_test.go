package store_test

import (
	"slices"
	"strings"
	"testing"

	"carryall/api"
	"carryall/parse"
	"carryall/store"
)

const nought = "00000000-0000-4000-8000-000000000000"
const one = "00000000-0000-4000-8000-000000000001"

func made(t *testing.T, room int) *store.Store[string] {
	t.Helper()
	s, e := store.New[string](room)
	if e != api.OK || s == nil || len(s.Urls()) != 0 {
		t.Fatalf("New(%d): %v", room, e)
	}
	return s
}

func tuple(scheme, host string, port int) api.Origin {
	return api.Origin{Scheme: scheme, Host: host, Port: port}
}

func parsed(t *testing.T, s string) api.Url {
	t.Helper()
	u, e := parse.Parse(s, nil)
	if e != api.OK {
		t.Fatalf("%q: %v", s, e)
	}
	return u
}

func checkRegister(t *testing.T, s *store.Store[string], o api.Origin, x string, random byte, want string, e api.Errno) {
	t.Helper()
	before := s.Urls()
	got, err := s.Register(o, x, [16]byte{15: random})
	if got != want || err != e {
		t.Errorf("Register(%v, %q, %d): %q %v, want %q %v", o, x, random, got, err, want, e)
	}
	if e == api.OK {
		before = append(before, want)
	}
	if !slices.Equal(s.Urls(), before) {
		t.Errorf("Urls: %q, want %q", s.Urls(), before)
	}
}

func checkFind(t *testing.T, s *store.Store[string], u string, o api.Origin, want string, there bool) {
	t.Helper()
	if got, ok := s.Find(parsed(t, u), o); got != want || ok != there {
		t.Errorf("Find(%q, %v): %q %v", u, o, got, ok)
	}
}

func checkRevoke(t *testing.T, s *store.Store[string], u string, o api.Origin, want bool) {
	t.Helper()
	if got := s.Revoke(parsed(t, u), o); got != want {
		t.Errorf("Revoke(%q, %v): %v", u, o, got)
	}
}

// P24.1: New.
func TestNew(t *testing.T) {
	for _, room := range []int{0, -1, api.MaxUrls + 1, 1 << 40, -1 << 63} {
		if s, e := store.New[int](room); e != api.ErrArg || s != nil {
			t.Errorf("New(%d): %v", room, e)
		}
	}
	for _, room := range []int{1, 2, api.MaxUrls} {
		s := made(t, room)
		for k := range room {
			if _, e := s.Register(api.Origin{}, "x", [16]byte{byte(k)}); e != api.OK {
				t.Errorf("%d of %d: %v", k, room, e)
			}
		}
		checkRegister(t, s, api.Origin{}, "x", 1, "", api.ErrFull)
	}
}

// P24.1: Right.
func TestRight(t *testing.T) {
	for _, o := range []api.Origin{
		{}, {Nonce: 5}, {Nonce: -1}, {Host: "A b", Port: 99999, Nonce: 3},
		tuple("https", "a", api.NoPort), tuple("http", "a", 0), tuple("ftp", "a.b", 65535), tuple("ws", "[::1]", 443), tuple("wss", "127.0.0.1", 80), {Scheme: "http", Host: "a", Port: 443, Nonce: 9},
	} {
		if !store.Right(o) {
			t.Errorf("Right(%v): false", o)
		}
	}
	for _, o := range []api.Origin{
		tuple("http", "a", 80), tuple("https", "a", 443), tuple("http", "a", 65536), tuple("http", "a", -2), tuple("http", "", api.NoPort), tuple("http", "A", api.NoPort), tuple("HTTP", "a", api.NoPort), tuple("http", "a/b", api.NoPort), tuple("http", "u@a", api.NoPort),
		tuple("http", "a:81", api.NoPort), tuple("http", "127.1", api.NoPort), tuple("http", "[0::1]", api.NoPort), tuple("http", "%61", api.NoPort), tuple("http", "a b", api.NoPort), tuple("http", "a?", api.NoPort), tuple("http", "/a", api.NoPort), tuple("http", "é", api.NoPort),
		tuple("file", "a", api.NoPort), tuple("file", "", api.NoPort), tuple("x", "a", api.NoPort), tuple("blob", "a", api.NoPort), tuple("data", ",", api.NoPort), tuple("1", "a", api.NoPort), tuple("http:", "a", api.NoPort), tuple(" http", "a", api.NoPort), tuple("http", strings.Repeat("a", api.MaxText), api.NoPort),
	} {
		if store.Right(o) {
			t.Errorf("Right(%v): true", o)
		}
		s := made(t, 1)
		checkRegister(t, s, o, "x", 0, "", api.ErrArg)
	}
}

// P24.1: the URLs, and the errors of Register in their order.
func TestRegister(t *testing.T) {
	s := made(t, 3)
	checkRegister(t, s, api.Origin{}, "a", 0, "blob:null/"+nought, api.OK)
	checkRegister(t, s, tuple("https", "h", 8443), "b", 0, "blob:https://h:8443/"+nought, api.OK)
	checkRegister(t, s, api.Origin{}, "c", 0, "", api.ErrTwice)
	checkRegister(t, s, api.Origin{Nonce: 7}, "c", 0, "", api.ErrTwice)
	checkRegister(t, s, api.Origin{Scheme: "https", Host: "h", Port: 8443, Nonce: 7}, "c", 0, "", api.ErrTwice)
	checkRegister(t, s, tuple("https", "H", 8443), "c", 0, "", api.ErrArg)
	checkRegister(t, s, tuple("https", "h", api.NoPort), "c", 1, "blob:https://h/"+one, api.OK)
	checkRegister(t, s, tuple("https", "h", api.NoPort), "d", 1, "", api.ErrTwice)
	checkRegister(t, s, tuple("https", "h", api.NoPort), "d", 2, "", api.ErrFull)
	checkRegister(t, s, tuple("https", "h", 443), "d", 2, "", api.ErrArg)
	checkFind(t, s, "blob:null/"+nought, api.Origin{}, "a", true)
	checkFind(t, s, "blob:https://h:8443/"+nought, tuple("https", "h", 8443), "b", true)
	checkFind(t, s, "blob:https://h/"+one, tuple("https", "h", api.NoPort), "c", true)
	s = made(t, 1)
	if got, e := s.Register(tuple("http", "[::1]", 1), "x", [16]byte{6: 0xff, 8: 0xff}); e != api.OK || got != "blob:http://[::1]:1/00000000-0000-4f00-bf00-000000000000" {
		t.Errorf("%q %v", got, e)
	}
}

// P24.1: Find and Revoke, by whoever registered it alone.
func TestFindAndRevoke(t *testing.T) {
	s := made(t, 4)
	a, b, none, other := tuple("https", "a", api.NoPort), tuple("https", "b", api.NoPort), api.Origin{Nonce: 1}, api.Origin{Nonce: 2}
	ofA, ofNone := "blob:https://a/"+nought, "blob:null/"+nought
	checkRegister(t, s, a, "of a", 0, ofA, api.OK)
	checkRegister(t, s, none, "of none", 0, ofNone, api.OK)
	checkRegister(t, s, none, "more", 1, "blob:null/"+one, api.OK)
	checkFind(t, s, ofA, a, "of a", true)
	checkFind(t, s, ofA, api.Origin{Scheme: "https", Host: "a", Port: api.NoPort, Nonce: 5}, "of a", true)
	checkFind(t, s, ofNone, none, "of none", true)
	checkFind(t, s, ofNone, api.Origin{Nonce: 1, Host: "x", Port: 3}, "of none", true)
	checkFind(t, s, ofA+"#f", a, "of a", true)
	checkFind(t, s, "BLOB:https://a/"+nought+"#", a, "of a", true)
	for _, o := range []api.Origin{b, none, other, {}, tuple("http", "a", api.NoPort), tuple("https", "a", 443)} {
		checkFind(t, s, ofA, o, "", false)
		checkRevoke(t, s, ofA, o, false)
	}
	for _, o := range []api.Origin{a, other, {}} {
		checkFind(t, s, ofNone, o, "", false)
		checkRevoke(t, s, ofNone, o, false)
	}
	for _, u := range []string{ofA + "?", ofA + "?q", ofA + "/", ofA + "0", "blob:https://a/" + one, "blob:HTTPS://a/" + nought, "blob:https://b/" + nought, "https://a/" + nought, "blob:/https://a/" + nought, "blob:", "data:,x"} {
		checkFind(t, s, u, a, "", false)
		checkRevoke(t, s, u, a, false)
	}
	checkRevoke(t, s, ofNone+"#f", none, true)
	checkRevoke(t, s, ofNone, none, false)
	checkFind(t, s, ofNone, none, "", false)
	checkFind(t, s, "blob:null/"+one, none, "more", true)
	checkFind(t, s, ofA, a, "of a", true)
	checkRegister(t, s, other, "again", 0, ofNone, api.OK)
	checkFind(t, s, ofNone, other, "again", true)
	checkFind(t, s, ofNone, none, "", false)
}

// P24.1: Urls stand in the order in which they were registered.
func TestUrls(t *testing.T) {
	s := made(t, 3)
	checkRegister(t, s, api.Origin{}, "a", 3, "blob:null/00000000-0000-4000-8000-000000000003", api.OK)
	checkRegister(t, s, api.Origin{}, "b", 1, "blob:null/"+one, api.OK)
	checkRegister(t, s, api.Origin{}, "c", 2, "blob:null/00000000-0000-4000-8000-000000000002", api.OK)
	checkRevoke(t, s, "blob:null/00000000-0000-4000-8000-000000000003", api.Origin{}, true)
	checkRegister(t, s, api.Origin{}, "d", 0, "blob:null/"+nought, api.OK)
	want := []string{"blob:null/" + one, "blob:null/00000000-0000-4000-8000-000000000002", "blob:null/" + nought}
	if !slices.Equal(s.Urls(), want) {
		t.Errorf("%q", s.Urls())
	}
	s.Urls()[0] = "changed"
	if !slices.Equal(s.Urls(), want) {
		t.Error("Urls are shared")
	}
	checkFind(t, s, want[0], api.Origin{}, "b", true)
	checkFind(t, s, want[1], api.Origin{}, "c", true)
	checkFind(t, s, want[2], api.Origin{}, "d", true)
}

// P24.1: a nil Store; R1: one that is made by hand.
func TestNil(t *testing.T) {
	var s *store.Store[string]
	checkRegister(t, s, api.Origin{}, "x", 0, "", api.ErrArg)
	checkFind(t, s, "blob:null/"+nought, api.Origin{}, "", false)
	checkRevoke(t, s, "blob:null/"+nought, api.Origin{}, false)
	if len(s.Urls()) != 0 {
		t.Error("Urls")
	}
	var zero store.Store[string]
	zero.Register(api.Origin{}, "x", [16]byte{})
	zero.Find(api.Url{}, api.Origin{})
	zero.Revoke(api.Url{}, api.Origin{})
	zero.Urls()
}

// R3: things are kept as they are handed in.
func TestMemory(t *testing.T) {
	s, _ := store.New[[]byte](2)
	thing := []byte("a")
	u, _ := s.Register(api.Origin{}, thing, [16]byte{})
	thing[0] = 'x'
	if got, ok := s.Find(parsed(t, u), api.Origin{}); !ok || &got[0] != &thing[0] {
		t.Error("not kept as it is")
	}
	if got, ok := s.Find(parsed(t, u), api.Origin{Nonce: 1}); ok || got != nil {
		t.Error("found by somebody else")
	}
}
