package script_test

import (
	"bytes"
	"slices"
	"strings"
	"testing"

	"carryall/answer"
	"carryall/api"
	"carryall/script"
	"carryall/sort"
	"carryall/stack"
)

// The kinds of operations, as the chapter numbers them.
const (
	create = iota + 1
	slice
	forget
	register
	revoke
	fetch
	toUrl
	toPath
	buildUrl
	sortOf
	notice
)

const nought = "00000000-0000-4000-8000-000000000000"

var caps = stack.Caps{Blobs: 3, Urls: 2, Bytes: 20}

func made(t *testing.T) *stack.Stack {
	t.Helper()
	s, e := stack.New(caps)
	if e != api.OK {
		t.Fatal(e)
	}
	return s
}

func same(a, b script.Result) bool {
	return a.Errno == b.Errno && a.H == b.H && a.S == b.S && answer.Same(a.A, b.A)
}

type step struct {
	op   script.Op
	want script.Result
}

func checkSteps(t *testing.T, s *stack.Stack, steps []step) {
	t.Helper()
	for k, c := range steps {
		if got := script.Do(s, c.op); !same(got, c.want) {
			t.Errorf("step %d, %v: %v, want %v", k, c.op, got, c.want)
		}
	}
}

func fails(e api.Errno) script.Result {
	return script.Result{Errno: e}
}

// full is a script of all kinds, with what each operation answers.
func full() []step {
	who, host := api.Origin{Nonce: 7}, api.Origin{Scheme: "https", Host: "h", Port: 8443}
	ofWho, ofHost := "blob:null/"+nought, "blob:https://h:8443/00000000-0000-4000-8000-0000000000ff"
	return []step{
		{script.Op{Kind: notice}, fails(api.ErrNone)},
		{script.Op{Kind: create, S: "abcdef", T: "Text/Plain", H: 9, Flag: 255}, script.Result{H: 1}},
		{script.Op{Kind: create, S: strings.Repeat("x", 15)}, fails(api.ErrQuota)},
		{script.Op{Kind: slice, H: 1, From: 1, To: 3, Flag: 3, T: "A"}, script.Result{H: 2}},
		{script.Op{Kind: slice, H: 1, From: -2, To: 1, Flag: 1}, script.Result{H: 3}},
		{script.Op{Kind: slice, H: 1, From: 1, To: 3, Flag: 3}, fails(api.ErrFull)},
		{script.Op{Kind: slice, H: 9}, fails(api.ErrNone)},
		{script.Op{Kind: register, H: 2, O: who}, script.Result{S: ofWho}},
		{script.Op{Kind: register, H: 3, O: who}, fails(api.ErrTwice)},
		{script.Op{Kind: register, H: 9, O: who}, fails(api.ErrNone)},
		{script.Op{Kind: register, H: 1, O: api.Origin{Scheme: "https", Host: "H", Port: 1}}, fails(api.ErrArg)},
		{script.Op{Kind: register, H: 3, O: host, R: [16]byte{15: 255}}, script.Result{S: ofHost}},
		{script.Op{Kind: register, H: 3, O: host}, fails(api.ErrFull)},
		{script.Op{Kind: fetch, S: ofWho, O: who}, script.Result{A: answer.Answer{Sort: sort.Blob, Status: 200, Kind: "a", Body: []byte("bc"), Total: 2}}},
		{script.Op{Kind: fetch, S: ofHost + "#x", O: host, T: "bytes=0-0", Flag: 2}, script.Result{A: answer.Answer{Sort: sort.Blob, Status: 200, Body: []byte("ef"), Total: 2}}},
		{script.Op{Kind: fetch, S: ofHost, O: host, T: "bytes=1-", Flag: 1}, script.Result{A: answer.Answer{Sort: sort.Blob, Status: 206, Body: []byte("f"), First: 1, Total: 2}}},
		{script.Op{Kind: fetch, S: ofHost, O: host, T: "bytes=1-", Flag: 255}, script.Result{A: answer.Answer{Sort: sort.Blob, Status: 206, Body: []byte("f"), First: 1, Total: 2}}},
		{script.Op{Kind: fetch, S: ofHost, O: host, T: "bytes=2-", Flag: 1}, script.Result{A: answer.Answer{Sort: sort.Blob, Status: 416, Total: 2}}},
		{script.Op{Kind: fetch, S: ofHost, O: host, Flag: 1}, script.Result{Errno: api.ErrNet, A: answer.Answer{Sort: sort.Blob}}},
		{script.Op{Kind: fetch, S: ofHost, O: who}, script.Result{Errno: api.ErrNet, A: answer.Answer{Sort: sort.Blob}}},
		{script.Op{Kind: fetch, S: "x"}, script.Result{Errno: api.ErrNet, A: answer.Answer{Sort: sort.Other}}},
		{script.Op{Kind: fetch, S: "data:a/b,c"}, script.Result{A: answer.Answer{Sort: sort.Data, Status: 200, Kind: "a/b", Body: []byte("c"), Total: 1}}},
		{script.Op{Kind: fetch, S: "about:blank", Flag: 1}, script.Result{A: answer.Answer{Sort: sort.Blank, Status: 200, Kind: "text/html;charset=utf-8"}}},
		{script.Op{Kind: forget, H: 2}, script.Result{}},
		{script.Op{Kind: forget, H: 2}, fails(api.ErrNone)},
		{script.Op{Kind: revoke, S: ofWho, O: host}, fails(api.ErrNone)},
		{script.Op{Kind: revoke, S: "nothing", O: who}, fails(api.ErrNone)},
		{script.Op{Kind: revoke, S: ofWho + "#f", O: who}, script.Result{}},
		{script.Op{Kind: revoke, S: ofWho, O: who}, fails(api.ErrNone)},
		{script.Op{Kind: notice}, script.Result{S: "-" + ofWho}},
		{script.Op{Kind: notice}, script.Result{S: "+" + ofWho}},
		{script.Op{Kind: notice}, script.Result{S: "+" + ofHost}},
		{script.Op{Kind: notice}, fails(api.ErrNone)},
		{script.Op{Kind: toUrl, S: "/a b"}, script.Result{S: "file:///a%20b"}},
		{script.Op{Kind: toUrl, S: "c:/a", Flag: 1}, script.Result{S: "file:///c:/a"}},
		{script.Op{Kind: toUrl, S: "a"}, fails(api.ErrForm)},
		{script.Op{Kind: toUrl, S: "/a", Flag: 2}, fails(api.ErrArg)},
		{script.Op{Kind: toPath, S: "file:///a%20b"}, script.Result{S: "/a b"}},
		{script.Op{Kind: toPath, S: "file:///c|/a", Flag: 1}, script.Result{S: "c:\\a"}},
		{script.Op{Kind: toPath, S: "file://h/a"}, fails(api.ErrHost)},
		{script.Op{Kind: toPath, S: "x"}, fails(api.ErrForm)},
		{script.Op{Kind: toPath, S: "file:///a", Flag: 255}, fails(api.ErrArg)},
		{script.Op{Kind: toPath, S: "x:" + strings.Repeat("a", api.MaxText)}, fails(api.ErrLong)},
		{script.Op{Kind: buildUrl, S: "a b", T: "Text/Plain;a=B"}, script.Result{S: "data:text/plain;a=B,a%20b"}},
		{script.Op{Kind: buildUrl, S: "a b", T: "text/plain", Flag: 1}, script.Result{S: "data:text/plain;base64,YSBi"}},
		{script.Op{Kind: buildUrl, S: "a", T: "text/plain", Flag: 2}, script.Result{S: "data:text/plain,a"}},
		{script.Op{Kind: buildUrl, S: "a", T: "text/plain", Flag: 3}, script.Result{S: "data:text/plain;base64,YQ=="}},
		{script.Op{Kind: buildUrl, S: "a", T: "text"}, fails(api.ErrForm)},
		{script.Op{Kind: buildUrl, S: "a", T: "text/plain;a=\",\""}, fails(api.ErrForm)},
		{script.Op{Kind: buildUrl, S: strings.Repeat("a", api.MaxText), T: "text/plain"}, fails(api.ErrLong)},
		{script.Op{Kind: sortOf, S: "about:blank?x"}, script.Result{S: "about-blank"}},
		{script.Op{Kind: sortOf, S: "HTTP:a"}, script.Result{S: "unsupported"}},
		{script.Op{Kind: sortOf, S: "data:"}, script.Result{S: "data"}},
		{script.Op{Kind: sortOf, S: "a"}, fails(api.ErrForm)},
		{script.Op{Kind: sortOf, S: "x:" + strings.Repeat("a", api.MaxText)}, fails(api.ErrLong)},
		{script.Op{Kind: 0, S: "a", H: 1}, fails(api.ErrArg)},
		{script.Op{Kind: 12, S: "a", H: 1}, fails(api.ErrArg)},
		{script.Op{Kind: 255}, fails(api.ErrArg)},
		{script.Op{Kind: create, T: "x"}, script.Result{H: 4}},
	}
}

// P28.1: Do.
func TestDo(t *testing.T) {
	checkSteps(t, made(t), full())
}

// R1: Do of a nil stack, and of one that is made by hand.
func TestDoNil(t *testing.T) {
	checkSteps(t, nil, []step{
		{script.Op{Kind: create, S: "a"}, fails(api.ErrArg)},
		{script.Op{Kind: slice, H: 1}, fails(api.ErrArg)},
		{script.Op{Kind: register, H: 1}, fails(api.ErrArg)},
		{script.Op{Kind: 12}, fails(api.ErrArg)},
	})
	for _, c := range full() {
		script.Do(nil, c.op)
		script.Do(&stack.Stack{}, c.op)
	}
}

// P28.1: Encode, byte by byte.
func TestEncode(t *testing.T) {
	if got := script.Encode(script.Op{}); !bytes.Equal(got, make([]byte, 74)) {
		t.Errorf("zero: % x", got)
	}
	if len(script.Encode()) != 0 {
		t.Error("of none")
	}
	o := script.Op{Kind: 1, Flag: 2, H: 3, From: -4, To: 5, S: "s\xff", T: "tt", O: api.Origin{Scheme: "x", Host: "hh", Port: -1, Nonce: 6}}
	for k := range o.R {
		o.R[k] = byte(100 + k)
	}
	want := "\x01\x02" + "\x00\x00\x00\x00\x00\x00\x00\x03" + "\xff\xff\xff\xff\xff\xff\xff\xfc" + "\x00\x00\x00\x00\x00\x00\x00\x05" +
		"\x00\x00\x00\x02s\xff" + "\x00\x00\x00\x02tt" + "\x00\x00\x00\x01x" + "\x00\x00\x00\x02hh" +
		"\xff\xff\xff\xff\xff\xff\xff\xff" + "\x00\x00\x00\x00\x00\x00\x00\x06" + "defghijklmnopqrs"
	if got := script.Encode(o); string(got) != want {
		t.Errorf("% x", got)
	}
	if got := script.Encode(o, script.Op{}, o); string(got) != want+strings.Repeat("\x00", 74)+want {
		t.Errorf("% x", got)
	}
}

// P28.1: Parse, there and back, whatever the kinds are; and of bytes that are no operations'.
func TestParse(t *testing.T) {
	ops := []script.Op{{}, {Kind: 255, Flag: 254, H: -1, From: 1 << 62, To: -1 << 63, S: "\x00\xff", T: strings.Repeat("t", 300), O: api.Origin{Scheme: "s", Host: "h", Port: 1<<63 - 1, Nonce: -9}, R: [16]byte{0: 1, 15: 255}}, {Kind: 6, S: "x"}}
	for _, c := range full() {
		ops = append(ops, c.op)
	}
	l, e := script.Parse(script.Encode(ops...))
	if e != api.OK || !slices.Equal(l, ops) {
		t.Errorf("%d operations, %v", len(l), e)
	}
	if l, e := script.Parse(nil); e != api.OK || len(l) != 0 {
		t.Errorf("of nothing: %v %v", l, e)
	}
	b := script.Encode(ops[:3]...)
	first, second := len(script.Encode(ops[0])), len(script.Encode(ops[:2]...))
	for cut := range b {
		l, e := script.Parse(b[:cut])
		whole := cut == 0 || cut == first || cut == second
		if (e == api.OK) != whole || !whole && (e != api.ErrForm || len(l) != 0) {
			t.Errorf("%d of %d bytes: %v %v", cut, len(b), l, e)
		}
	}
	if l, e := script.Parse(append(b, 0)); e != api.ErrForm || len(l) != 0 {
		t.Errorf("one more: %v %v", l, e)
	}
	bad := script.Encode(script.Op{S: "abc"})
	bad[26] = 0xFF
	if l, e := script.Parse(bad); e != api.ErrForm || len(l) != 0 {
		t.Errorf("a long string: %v %v", l, e)
	}
}

// P28.1: Bytes.
func TestBytes(t *testing.T) {
	if got := script.Bytes(script.Result{}); string(got) != strings.Repeat("\x00", 16)+"\x1d"+strings.Repeat("\x00", 29) {
		t.Errorf("zero: % x", got)
	}
	r := script.Result{Errno: api.ErrNet, H: -2, S: "s\xff", A: answer.Answer{Sort: 7, Status: 206, First: 1, Total: 2, Kind: "k", Body: []byte("bb")}}
	want := "\x09" + "\xff\xff\xff\xff\xff\xff\xff\xfe" + "\x00\x00\x00\x02s\xff" + "\x00\x00\x00\x20" + string(answer.Encode(r.A))
	if got := script.Bytes(r); string(got) != want {
		t.Errorf("% x", got)
	}
	for _, c := range []struct {
		e    api.Errno
		want byte
	}{{256, 0}, {257, 1}, {-1, 255}, {255, 255}} {
		if got := script.Bytes(script.Result{Errno: c.e}); got[0] != c.want {
			t.Errorf("%d: %d", c.e, got[0])
		}
	}
}

// P28.1: Run, by one stack, one behind the other; its errors in their order.
func TestRun(t *testing.T) {
	var ops []script.Op
	var want []byte
	for _, c := range full() {
		ops = append(ops, c.op)
		want = append(want, script.Bytes(c.want)...)
	}
	for range 2 {
		if got, e := script.Run(caps, script.Encode(ops...)); e != api.OK || !bytes.Equal(got, want) {
			t.Errorf("Run: %d bytes, want %d, %v", len(got), len(want), e)
		}
	}
	if got, e := script.Run(caps, nil); e != api.OK || len(got) != 0 {
		t.Errorf("of nothing: % x %v", got, e)
	}
	for _, c := range []struct {
		caps stack.Caps
		b    []byte
		want api.Errno
	}{
		{stack.Caps{}, script.Encode(ops...), api.ErrArg},
		{stack.Caps{Blobs: 1, Urls: 1, Bytes: -1}, script.Encode(ops...), api.ErrArg},
		{stack.Caps{}, []byte("x"), api.ErrArg},
		{caps, []byte("x"), api.ErrForm},
		{caps, append(script.Encode(ops...), 1), api.ErrForm},
	} {
		if got, e := script.Run(c.caps, c.b); e != c.want || len(got) != 0 {
			t.Errorf("Run(%v): %d bytes, %v", c.caps, len(got), e)
		}
	}
}

// R3: what is handed in stays.
func TestArgumentsStay(t *testing.T) {
	b := script.Encode(script.Op{Kind: create, S: "abc"}, script.Op{Kind: register, H: 1}, script.Op{Kind: fetch, S: "blob:null/" + nought})
	room := append(slices.Clone(b), "spare"...)
	got, _ := script.Run(caps, room[:len(b)])
	if string(room) != string(b)+"spare" {
		t.Error("bytes changed")
	}
	got[0] = 1
	if again, _ := script.Run(caps, b); again[0] != 0 {
		t.Error("memory shared")
	}
}
