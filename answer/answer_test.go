package answer_test

import (
	"bytes"
	"slices"
	"strings"
	"testing"

	"carryall/answer"
	"carryall/api"
)

// P25.1: what each call writes, behind all that was written.
func TestWriter(t *testing.T) {
	var w answer.Writer
	want := ""
	check := func() {
		t.Helper()
		if got := w.Bytes(); string(got) != want {
			t.Errorf("% x, want % x", got, want)
		}
	}
	check()
	w.U8(0xFE)
	want += "\xfe"
	check()
	w.U32(0x01020304)
	want += "\x01\x02\x03\x04"
	check()
	w.U32(0xFFFFFFFF)
	want += "\xff\xff\xff\xff"
	w.I64(0x0102030405060708)
	want += "\x01\x02\x03\x04\x05\x06\x07\x08"
	check()
	w.I64(-2)
	want += "\xff\xff\xff\xff\xff\xff\xff\xfe"
	w.I64(-1 << 63)
	want += "\x80\x00\x00\x00\x00\x00\x00\x00"
	check()
	w.String("")
	want += "\x00\x00\x00\x00"
	check()
	w.String("é\x00\xff")
	want += "\x00\x00\x00\x04é\x00\xff"
	check()
	long := strings.Repeat("x", 70000)
	w.String(long)
	want += "\x00\x01\x11\x70" + long
	check()
	w.U8(0)
	want += "\x00"
	check()
}

// P25.1: what is written is read; Left tells what isn't yet.
func TestReader(t *testing.T) {
	var w answer.Writer
	w.U8(200)
	w.U32(0xFFFFFFFE)
	w.I64(-1 << 63)
	w.String("a\xff")
	w.String("")
	w.I64(1<<63 - 1)
	w.U32(7)
	r := answer.NewReader(w.Bytes())
	left := func(n int) {
		t.Helper()
		if r.Left() != n || r.Bad() {
			t.Errorf("Left: %d %v, want %d", r.Left(), r.Bad(), n)
		}
	}
	left(1 + 4 + 8 + 6 + 4 + 8 + 4)
	if n := r.U8(); n != 200 {
		t.Errorf("U8: %d", n)
	}
	left(4 + 8 + 6 + 4 + 8 + 4)
	if n := r.U32(); n != 0xFFFFFFFE {
		t.Errorf("U32: %x", n)
	}
	left(8 + 6 + 4 + 8 + 4)
	if n := r.I64(); n != -1<<63 {
		t.Errorf("I64: %d", n)
	}
	left(6 + 4 + 8 + 4)
	if s := r.String(); s != "a\xff" {
		t.Errorf("String: %q", s)
	}
	left(4 + 8 + 4)
	if s := r.String(); s != "" {
		t.Errorf("String: %q", s)
	}
	left(8 + 4)
	if n := r.I64(); n != 1<<63-1 {
		t.Errorf("I64: %d", n)
	}
	left(4)
	if n := r.U32(); n != 7 {
		t.Errorf("U32: %d", n)
	}
	left(0)
	r.U8()
	if !r.Bad() {
		t.Error("not bad at the end")
	}
}

// P25.1: one that is bad stays so, whatever is left.
func TestBad(t *testing.T) {
	reads := map[string]func(*answer.Reader){
		"U8": func(r *answer.Reader) {
			if r.U8() != 0 {
				t.Error("U8")
			}
		},
		"U32": func(r *answer.Reader) {
			if r.U32() != 0 {
				t.Error("U32")
			}
		},
		"I64": func(r *answer.Reader) {
			if r.I64() != 0 {
				t.Error("I64")
			}
		},
		"String": func(r *answer.Reader) {
			if r.String() != "" {
				t.Error("String")
			}
		},
	}
	bad := []struct{ b, call string }{
		{"", "U8"}, {"", "U32"}, {"", "I64"}, {"", "String"}, {"\x01\x01\x01", "U32"}, {"\x01\x01\x01\x01\x01\x01\x01", "I64"}, {"\x00\x00\x00", "String"}, {"\x00\x00\x00\x01", "String"}, {"\x00\x00\x00\x03ab", "String"}, {"\xff\xff\xff\xffabc", "String"}, {"\x80\x00\x00\x00abc", "String"},
	}
	for _, c := range bad {
		r := answer.NewReader([]byte(c.b))
		reads[c.call](r)
		if !r.Bad() || r.Left() != 0 {
			t.Errorf("%s of %q: %v %d", c.call, c.b, r.Bad(), r.Left())
		}
		for name, read := range reads {
			read(r)
			if !r.Bad() || r.Left() != 0 {
				t.Errorf("%s of %q, then %s: %v %d", c.call, c.b, name, r.Bad(), r.Left())
			}
		}
	}
}

// P25.1: nil ones.
func TestNil(t *testing.T) {
	var w *answer.Writer
	w.U8(1)
	w.U32(1)
	w.I64(1)
	w.String("a")
	if len(w.Bytes()) != 0 {
		t.Error("Writer")
	}
	var r *answer.Reader
	if r.U8() != 0 || r.U32() != 0 || r.I64() != 0 || r.String() != "" || r.Left() != 0 || r.Bad() {
		t.Error("Reader")
	}
	empty := answer.NewReader(nil)
	if empty.Left() != 0 || empty.Bad() {
		t.Error("of nothing")
	}
}

// P25.2: Encode, with Sort and Status modulo what there is.
func TestEncode(t *testing.T) {
	if got := answer.Encode(answer.Answer{}); !bytes.Equal(got, make([]byte, 29)) {
		t.Errorf("zero: % x", got)
	}
	a := answer.Answer{Sort: 7, Status: 206, First: 258, Total: -1, Kind: "a/b", Body: []byte("\x00\xff")}
	want := "\x07" + "\x00\x00\x00\xce" + "\x00\x00\x00\x00\x00\x00\x01\x02" + "\xff\xff\xff\xff\xff\xff\xff\xff" + "\x00\x00\x00\x03a/b" + "\x00\x00\x00\x02\x00\xff"
	if got := answer.Encode(a); string(got) != want {
		t.Errorf("% x", got)
	}
	for _, c := range []struct{ sort, status, wantSort, wantStatus int }{
		{256, 1 << 32, 0, 0}, {257, 1<<32 + 5, 1, 5}, {-1, -1, 255, 1<<32 - 1}, {255, 1<<32 - 1, 255, 1<<32 - 1}, {-256, -1 << 32, 0, 0},
	} {
		b := answer.Encode(answer.Answer{Sort: c.sort, Status: c.status})
		back, e := answer.Decode(b)
		if e != api.OK || back.Sort != c.wantSort || back.Status != c.wantStatus || len(b) != 29 {
			t.Errorf("%v: %v %v", c, back, e)
		}
	}
}

// P25.2: Decode, there and back, and of bytes that are no answer's.
func TestDecode(t *testing.T) {
	for _, a := range []answer.Answer{
		{}, {Sort: 1}, {Status: 200}, {First: -5}, {Total: 1<<63 - 1}, {Kind: "x"}, {Body: []byte("y")},
		{Sort: 255, Status: 1<<32 - 1, First: 1, Total: 2, Kind: "\xff\x00", Body: []byte(strings.Repeat("z", 1000))},
	} {
		b := answer.Encode(a)
		back, e := answer.Decode(b)
		if e != api.OK || !answer.Same(back, a) {
			t.Errorf("%v: %v %v", a, back, e)
		}
		for cut := range len(b) {
			checkForm(t, b[:cut])
		}
		checkForm(t, append(slices.Clone(b), 0))
		checkForm(t, append(slices.Clone(b), b...))
	}
	long := answer.Encode(answer.Answer{Kind: "x", Body: []byte("y")})
	for _, at := range []int{21, 26} {
		b := slices.Clone(long)
		b[at] = 0xFF
		checkForm(t, b)
	}
	b := slices.Clone(long)
	b[24] = 0
	checkForm(t, b)
	checkForm(t, nil)
}

func checkForm(t *testing.T, b []byte) {
	t.Helper()
	if a, e := answer.Decode(b); e != api.ErrForm || !answer.Same(a, answer.Answer{}) {
		t.Errorf("Decode(% x): %v %v", b, a, e)
	}
}

// P25.2: Same looks at everything.
func TestSame(t *testing.T) {
	a := answer.Answer{Sort: 1, Status: 2, First: 3, Total: 4, Kind: "k", Body: []byte("b")}
	for k, other := range []answer.Answer{
		{Sort: 9, Status: 2, First: 3, Total: 4, Kind: "k", Body: []byte("b")},
		{Sort: 1, Status: 9, First: 3, Total: 4, Kind: "k", Body: []byte("b")},
		{Sort: 1, Status: 2, First: 9, Total: 4, Kind: "k", Body: []byte("b")},
		{Sort: 1, Status: 2, First: 3, Total: 9, Kind: "k", Body: []byte("b")},
		{Sort: 1, Status: 2, First: 3, Total: 4, Kind: "K", Body: []byte("b")},
		{Sort: 1, Status: 2, First: 3, Total: 4, Kind: "k", Body: []byte("c")},
		{Sort: 1, Status: 2, First: 3, Total: 4, Kind: "k", Body: []byte("bb")},
		{Sort: 1, Status: 2, First: 3, Total: 4, Kind: "k"},
		{Sort: 257, Status: 2, First: 3, Total: 4, Kind: "k", Body: []byte("b")},
	} {
		if answer.Same(a, other) || answer.Same(other, a) {
			t.Errorf("%d: %v", k, other)
		}
	}
	if !answer.Same(a, answer.Answer{Sort: 1, Status: 2, First: 3, Total: 4, Kind: "k", Body: []byte("b")}) || !answer.Same(answer.Answer{}, answer.Answer{Body: []byte{}}) {
		t.Error("Same")
	}
}

// R3: nothing is shared.
func TestMemory(t *testing.T) {
	var w answer.Writer
	w.String("ab")
	first := w.Bytes()
	first[5] = 'x'
	_ = append(w.Bytes(), 'y')
	w.U8(1)
	if got := w.Bytes(); string(got) != "\x00\x00\x00\x02ab\x01" {
		t.Errorf("% x", got)
	}
	b := []byte("\x00\x00\x00\x02abcd")
	r := answer.NewReader(b[:6])
	b[4] = 'x'
	if s := r.String(); s != "ab" {
		t.Errorf("%q", s)
	}
	whole := answer.Encode(answer.Answer{Body: []byte("ab")})
	a, _ := answer.Decode(whole)
	a.Body[0] = 'x'
	if again, _ := answer.Decode(whole); string(again.Body) != "ab" {
		t.Errorf("%q", again.Body)
	}
}
