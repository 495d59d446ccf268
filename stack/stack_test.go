package stack_test

import (
	"slices"
	"strings"
	"testing"

	"carryall/answer"
	"carryall/api"
	"carryall/parse"
	"carryall/sort"
	"carryall/stack"
)

const nought = "00000000-0000-4000-8000-000000000000"

var none = api.Origin{Nonce: 1}

func made(t *testing.T, blobs, urls int, bytes int64) *stack.Stack {
	t.Helper()
	s, e := stack.New(stack.Caps{Blobs: blobs, Urls: urls, Bytes: bytes})
	if e != api.OK || s == nil {
		t.Fatalf("New: %v", e)
	}
	return s
}

func checkCreate(t *testing.T, s *stack.Stack, b string, want int64, e api.Errno) {
	t.Helper()
	if h, err := s.Create([]byte(b), "K"); h != want || err != e {
		t.Errorf("Create(%.40q): %d %v, want %d %v", b, h, err, want, e)
	}
}

func checkSlice(t *testing.T, s *stack.Stack, h, from, to, want int64, e api.Errno) {
	t.Helper()
	if got, err := s.Slice(h, &from, &to, "L"); got != want || err != e {
		t.Errorf("Slice(%d, %d, %d): %d %v, want %d %v", h, from, to, got, err, want, e)
	}
}

func checkBytes(t *testing.T, s *stack.Stack, want int64) {
	t.Helper()
	if got := s.Bytes(); got != want {
		t.Errorf("Bytes: %d, want %d", got, want)
	}
}

func checkNotice(t *testing.T, s *stack.Stack, want string, there bool) {
	t.Helper()
	if got, ok := s.Notice(); got != want || ok != there {
		t.Errorf("Notice: %q %v, want %q", got, ok, want)
	}
}

func checkRegister(t *testing.T, s *stack.Stack, o api.Origin, h int64, random byte, want string, e api.Errno) {
	t.Helper()
	if got, err := s.Register(o, h, [16]byte{15: random}); got != want || err != e {
		t.Errorf("Register(%v, %d): %q %v, want %q %v", o, h, got, err, want, e)
	}
}

func checkFetch(t *testing.T, s *stack.Stack, u string, o api.Origin, body, kind string) {
	t.Helper()
	want := answer.Answer{Sort: sort.Blob, Status: 200, Kind: kind, Body: []byte(body), Total: int64(len(body))}
	if got := s.Fetch(u, o, nil); !answer.Same(got, want) {
		t.Errorf("Fetch(%q): %v", u, got)
	}
}

func checkNoFetch(t *testing.T, s *stack.Stack, u string, o api.Origin) {
	t.Helper()
	if got := s.Fetch(u, o, nil); !answer.Same(got, answer.Answer{Sort: sort.Blob}) {
		t.Errorf("Fetch(%q): %v", u, got)
	}
	v, _ := parse.Parse(u, nil)
	if b, ok := s.Blob(v, o); b != nil || ok {
		t.Errorf("Blob(%q): %v %v", u, b, ok)
	}
}

// P27.1: New.
func TestNew(t *testing.T) {
	for _, c := range []stack.Caps{
		{}, {Blobs: 1}, {Urls: 1}, {Blobs: 0, Urls: 1, Bytes: 1}, {Blobs: 1, Urls: 0, Bytes: 1}, {Blobs: 65, Urls: 1}, {Blobs: 1, Urls: 65}, {Blobs: -1, Urls: 1}, {Blobs: 1, Urls: -1},
		{Blobs: 1, Urls: 1, Bytes: -1}, {Blobs: 1, Urls: 1, Bytes: api.MaxBytes + 1}, {Blobs: 1, Urls: 1, Bytes: -1 << 63}, {Blobs: 1, Urls: 1, Bytes: 1<<63 - 1},
	} {
		if s, e := stack.New(c); s != nil || e != api.ErrArg {
			t.Errorf("New(%v): %v", c, e)
		}
	}
	for _, c := range []stack.Caps{{Blobs: 1, Urls: 1}, {Blobs: 64, Urls: 64, Bytes: api.MaxBytes}, {Blobs: 1, Urls: 64, Bytes: 1}, {Blobs: 64, Urls: 1, Bytes: 0}} {
		s := made(t, c.Blobs, c.Urls, c.Bytes)
		checkBytes(t, s, 0)
		checkNotice(t, s, "", false)
		if len(s.Urls()) != 0 || s.Forget(1) {
			t.Errorf("New(%v) isn't without anything", c)
		}
		checkCreate(t, s, strings.Repeat("x", int(c.Bytes)+1), 0, api.ErrQuota)
		checkCreate(t, s, strings.Repeat("x", int(c.Bytes)), 1, api.OK)
		checkBytes(t, s, c.Bytes)
	}
}

// P27.1: Create, Slice, Forget, Bytes: handles, room, quota, in this order.
func TestBlobs(t *testing.T) {
	s := made(t, 3, 1, 10)
	checkCreate(t, s, "abcdef", 1, api.OK)
	checkBytes(t, s, 6)
	checkCreate(t, s, "abcde", 0, api.ErrQuota)
	checkCreate(t, s, "abcd", 2, api.OK)
	checkBytes(t, s, 10)
	checkCreate(t, s, "a", 0, api.ErrQuota)
	checkSlice(t, s, 1, 0, 1, 0, api.ErrQuota)
	checkSlice(t, s, 1, 2, 2, 3, api.OK)
	checkBytes(t, s, 10)
	checkCreate(t, s, "", 0, api.ErrFull)
	checkCreate(t, s, "a", 0, api.ErrQuota)
	checkSlice(t, s, 1, 0, 0, 0, api.ErrFull)
	checkSlice(t, s, 1, 0, 1, 0, api.ErrQuota)
	checkSlice(t, s, 9, 0, 9, 0, api.ErrNone)
	for _, h := range []int64{0, -1, 4, 1 << 62} {
		if s.Forget(h) {
			t.Errorf("Forget(%d)", h)
		}
		checkSlice(t, s, h, 0, 1, 0, api.ErrNone)
		checkRegister(t, s, none, h, 0, "", api.ErrNone)
	}
	if !s.Forget(2) || s.Forget(2) {
		t.Error("Forget")
	}
	checkBytes(t, s, 6)
	checkSlice(t, s, 2, 0, 1, 0, api.ErrNone)
	checkSlice(t, s, 1, -5, -1, 4, api.OK)
	checkBytes(t, s, 10)
	if !s.Forget(1) || !s.Forget(3) {
		t.Error("Forget")
	}
	checkBytes(t, s, 4)
	checkCreate(t, s, "abcdefg", 0, api.ErrQuota)
	checkCreate(t, s, "abcdef", 5, api.OK)
}

// P27.1: what a blob and its slices are; a place that lacks.
func TestSlices(t *testing.T) {
	s := made(t, 8, 8, 100)
	checkCreate(t, s, "abcdef", 1, api.OK)
	checkSlice(t, s, 1, 1, 4, 2, api.OK)
	from, to := int64(-2), int64(3)
	if h, e := s.Slice(1, &from, nil, "Ä"); h != 3 || e != api.OK {
		t.Errorf("Slice: %d %v", h, e)
	}
	if h, e := s.Slice(1, nil, &to, "T/P"); h != 4 || e != api.OK {
		t.Errorf("Slice: %d %v", h, e)
	}
	if h, e := s.Slice(2, nil, nil, ""); h != 5 || e != api.OK {
		t.Errorf("Slice: %d %v", h, e)
	}
	for k, c := range []struct{ body, kind string }{{"abcdef", "k"}, {"bcd", "l"}, {"ef", ""}, {"abc", "t/p"}, {"bcd", ""}} {
		u, e := s.Register(none, int64(k+1), [16]byte{byte(k)})
		if e != api.OK {
			t.Errorf("Register %d: %v", k+1, e)
		}
		checkFetch(t, s, u, none, c.body, c.kind)
	}
}

// P27.2: Register, Fetch, Revoke, Blob, Urls.
func TestUrls(t *testing.T) {
	s := made(t, 4, 3, 100)
	host := api.Origin{Scheme: "https", Host: "a", Port: api.NoPort}
	checkCreate(t, s, "one", 1, api.OK)
	checkCreate(t, s, "two", 2, api.OK)
	checkRegister(t, s, none, 1, 0, "blob:null/"+nought, api.OK)
	checkRegister(t, s, host, 2, 0, "blob:https://a/"+nought, api.OK)
	checkRegister(t, s, none, 2, 0, "", api.ErrTwice)
	checkRegister(t, s, api.Origin{Scheme: "x", Host: "a"}, 1, 5, "", api.ErrArg)
	checkRegister(t, s, api.Origin{Scheme: "x", Host: "a"}, 9, 5, "", api.ErrNone)
	checkRegister(t, s, none, 1, 1, "blob:null/00000000-0000-4000-8000-000000000001", api.OK)
	checkRegister(t, s, none, 1, 2, "", api.ErrFull)
	want := []string{"blob:null/" + nought, "blob:https://a/" + nought, "blob:null/00000000-0000-4000-8000-000000000001"}
	if !slices.Equal(s.Urls(), want) {
		t.Errorf("Urls: %q", s.Urls())
	}
	checkFetch(t, s, want[0]+"#f", none, "one", "k")
	checkFetch(t, s, want[1], host, "two", "k")
	checkNoFetch(t, s, want[1], none)
	checkNoFetch(t, s, want[0], host)
	span := "bytes=-2"
	if a := s.Fetch(want[1], host, &span); !answer.Same(a, answer.Answer{Sort: sort.Blob, Status: 206, Kind: "k", Body: []byte("wo"), First: 1, Total: 3}) {
		t.Errorf("part: %v", a)
	}
	u, _ := parse.Parse(want[1]+"#f", nil)
	if b, ok := s.Blob(u, host); !ok || string(b.Bytes()) != "two" || b.Kind() != "k" {
		t.Errorf("Blob: %v", ok)
	}
	if !s.Forget(2) {
		t.Error("Forget")
	}
	checkFetch(t, s, want[1], host, "two", "k")
	for _, text := range []string{"", "http://", "blob:null/x", want[1] + "?q", "x:y", want[1]} {
		if s.Revoke(text, none) {
			t.Errorf("Revoke(%q)", text)
		}
	}
	checkFetch(t, s, want[1], host, "two", "k")
	if !s.Revoke(want[1]+"#f", host) || s.Revoke(want[1], host) {
		t.Error("Revoke")
	}
	checkNoFetch(t, s, want[1], host)
	if !slices.Equal(s.Urls(), []string{want[0], want[2]}) {
		t.Errorf("Urls: %q", s.Urls())
	}
}

// P27.2: Notice: what was revoked first, each in order; what was refused isn't told.
func TestNotice(t *testing.T) {
	s := made(t, 1, 4, 10)
	checkCreate(t, s, "x", 1, api.OK)
	checkRegister(t, s, none, 9, 0, "", api.ErrNone)
	a, _ := s.Register(none, 1, [16]byte{1})
	b, _ := s.Register(none, 1, [16]byte{2})
	c, _ := s.Register(none, 1, [16]byte{3})
	checkRegister(t, s, api.Origin{Scheme: "x"}, 1, 0, "", api.ErrArg)
	checkNotice(t, s, "+"+a, true)
	if !s.Revoke(" "+strings.ToUpper("blob")+strings.TrimPrefix(c, "blob")+"#f ", none) || !s.Revoke(a, none) || s.Revoke(a, none) {
		t.Error("Revoke")
	}
	checkNotice(t, s, "-"+c, true)
	checkNotice(t, s, "-"+a, true)
	checkNotice(t, s, "+"+b, true)
	checkNotice(t, s, "+"+c, true)
	checkNotice(t, s, "", false)
}

// P27.2: what has no room in the mail isn't told; there is room for Urls in each box.
func TestFullMail(t *testing.T) {
	s := made(t, 1, 2, 10)
	checkCreate(t, s, "x", 1, api.OK)
	var urls []string
	for k := range 4 {
		u, e := s.Register(none, 1, [16]byte{byte(k)})
		if e != api.OK || !s.Revoke(u, none) {
			t.Fatalf("%d: %v", k, e)
		}
		urls = append(urls, u)
	}
	checkNotice(t, s, "-"+urls[0], true)
	checkNotice(t, s, "-"+urls[1], true)
	checkNotice(t, s, "+"+urls[0], true)
	checkRegister(t, s, none, 1, 9, "blob:null/00000000-0000-4000-8000-000000000009", api.OK)
	checkNotice(t, s, "+"+urls[1], true)
	checkNotice(t, s, "+blob:null/00000000-0000-4000-8000-000000000009", true)
	checkNotice(t, s, "", false)
}

// P27.2: Fetch of what isn't a blob.
func TestFetch(t *testing.T) {
	s := made(t, 1, 1, 10)
	if a := s.Fetch("data:,a", none, nil); a.Status != 200 || string(a.Body) != "a" || a.Sort != sort.Data {
		t.Errorf("%v", a)
	}
	if a := s.Fetch("nothing", none, nil); !answer.Same(a, answer.Answer{Sort: sort.Other}) {
		t.Errorf("%v", a)
	}
	checkNoFetch(t, s, "blob:null/"+nought, none)
}

// P27.1, P27.2: a nil Stack; R1: one that is made by hand.
func TestNil(t *testing.T) {
	var s *stack.Stack
	checkCreate(t, s, "a", 0, api.ErrArg)
	checkSlice(t, s, 1, 0, 1, 0, api.ErrArg)
	checkRegister(t, s, none, 1, 0, "", api.ErrArg)
	checkBytes(t, s, 0)
	checkNotice(t, s, "", false)
	checkNoFetch(t, s, "blob:null/"+nought, none)
	if s.Forget(1) || s.Revoke("blob:null/"+nought, none) || len(s.Urls()) != 0 {
		t.Error("nil")
	}
	if a := s.Fetch("data:,a", none, nil); a.Status != 200 || string(a.Body) != "a" {
		t.Errorf("%v", a)
	}
	zero := &stack.Stack{}
	zero.Create(nil, "")
	zero.Slice(1, nil, nil, "")
	zero.Register(none, 1, [16]byte{})
	zero.Forget(1)
	zero.Revoke("blob:x", none)
	zero.Fetch("blob:x", none, nil)
	zero.Notice()
	zero.Bytes()
	zero.Urls()
}

// R3: what is handed in isn't kept.
func TestMemory(t *testing.T) {
	s := made(t, 2, 2, 10)
	b := []byte("abc")
	s.Create(b, "")
	b[0] = 'x'
	u, _ := s.Register(none, 1, [16]byte{})
	checkFetch(t, s, u, none, "abc", "")
	s.Fetch(u, none, nil).Body[0] = 'x'
	s.Urls()[0] = "changed"
	checkFetch(t, s, s.Urls()[0], none, "abc", "")
}

// P27.3: ToUrl and ToPath of both flavours, and their errors.
func TestPaths(t *testing.T) {
	if stack.Posix != 0 || stack.Windows != 1 {
		t.Error("flavours")
	}
	for _, c := range []struct {
		flavour   int
		path, url string
		e         api.Errno
	}{
		{stack.Posix, "/a", "file:///a", api.OK},
		{stack.Posix, "/a b/c%", "file:///a%20b/c%25", api.OK},
		{stack.Posix, "a", "", api.ErrForm},
		{stack.Posix, "c:\\a", "", api.ErrForm},
		{stack.Posix, "", "", api.ErrForm},
		{stack.Windows, "c:\\a", "file:///c:/a", api.OK},
		{stack.Windows, "\\\\h\\s", "file://h/s", api.OK},
		{stack.Windows, "/a", "", api.ErrForm},
		{2, "/a", "", api.ErrArg},
		{-1, "a", "", api.ErrArg},
		{1 << 40, "", "", api.ErrArg},
	} {
		if got, e := stack.ToUrl(c.flavour, c.path); got != c.url || e != c.e {
			t.Errorf("ToUrl(%d, %q): %q %v", c.flavour, c.path, got, e)
		}
		if c.e != api.OK {
			continue
		}
		if got, e := stack.ToPath(c.flavour, c.url); got != c.path || e != api.OK {
			t.Errorf("ToPath(%d, %q): %q %v", c.flavour, c.url, got, e)
		}
	}
	long := "file:///" + strings.Repeat("a", api.MaxText)
	for _, c := range []struct {
		flavour   int
		url, path string
		e         api.Errno
	}{
		{stack.Posix, " FILE:a?q#f", "/a", api.OK},
		{stack.Posix, "file:///c|/a", "/c:/a", api.OK},
		{stack.Posix, "file://h/a", "", api.ErrHost},
		{stack.Posix, "file://localhost/a", "/a", api.OK},
		{stack.Posix, "file:///a%2Fb", "", api.ErrForm},
		{stack.Posix, "http://h/a", "", api.ErrForm},
		{stack.Posix, "/a", "", api.ErrForm},
		{stack.Posix, long, "", api.ErrLong},
		{stack.Windows, "file:///c|/a", "c:\\a", api.OK},
		{stack.Windows, "file://h/a", "\\\\h\\a", api.OK},
		{stack.Windows, "file:///a", "", api.ErrForm},
		{stack.Windows, "data:,a", "", api.ErrForm},
		{stack.Windows, "c:", "", api.ErrForm},
		{stack.Windows, long, "", api.ErrLong},
		{2, "file:///a", "", api.ErrArg},
		{-1, "a", "", api.ErrArg},
		{2, long, "", api.ErrArg},
	} {
		if got, e := stack.ToPath(c.flavour, c.url); got != c.path || e != c.e {
			t.Errorf("ToPath(%d, %.80q): %q %v", c.flavour, c.url, got, e)
		}
	}
}
