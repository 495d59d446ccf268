package blob_test

import (
	"testing"

	"carryall/blob"
)

func place(n int64) *int64 {
	return &n
}

func check(t *testing.T, b *blob.Blob, bytes, kind string) {
	t.Helper()
	if b == nil || string(b.Bytes()) != bytes || b.Kind() != kind || b.Len() != int64(len(bytes)) {
		t.Errorf("%q %q %d, want %q %q", b.Bytes(), b.Kind(), b.Len(), bytes, kind)
	}
}

// P19.1: New, Bytes, Kind, Len.
func TestNew(t *testing.T) {
	check(t, blob.New([]byte("abcd"), "Text/PLAIN"), "abcd", "text/plain")
	check(t, blob.New(nil, ""), "", "")
	check(t, blob.New([]byte("\x00\xff"), "a\x1f"), "\x00\xff", "")
}

// P19.1: Kind, of every byte.
func TestKind(t *testing.T) {
	for k := range 256 {
		s := "A" + string([]byte{byte(k)})
		want := ""
		if k >= 0x20 && k <= 0x7E {
			want = "a" + string([]byte{byte(k)})
		}
		if k >= 'A' && k <= 'Z' {
			want = "a" + string([]byte{byte(k + 32)})
		}
		if got := blob.Kind(s); got != want {
			t.Errorf("Kind(%q): %q", s, got)
		}
		if got := blob.New(nil, s).Kind(); got != want {
			t.Errorf("kind %q: %q", s, got)
		}
	}
	for _, c := range []struct{ s, want string }{{"", ""}, {"Text/HTML; Charset=\"X\"", "text/html; charset=\"x\""}, {" ~", " ~"}, {"not a type", "not a type"}, {"\x1fa", ""}, {"a\x7f", ""}, {"é", ""}, {"a\nb", ""}} {
		if got := blob.Kind(c.s); got != c.want {
			t.Errorf("Kind(%q): %q", c.s, got)
		}
	}
}

// P19.1: Slice, of all places there and beyond, against the chapter's words.
func TestSlice(t *testing.T) {
	const most = 1<<63 - 1
	b := blob.New([]byte("abcd"), "x")
	check(t, b.Slice(place(-2), nil, ""), "cd", "")
	check(t, b.Slice(nil, nil, "Y"), "abcd", "y")
	check(t, b.Slice(nil, nil, ""), "abcd", "")
	check(t, b.Slice(nil, place(2), "é"), "ab", "")
	check(t, b.Slice(place(1), place(3), ""), "bc", "")
	check(t, b.Slice(place(3), place(1), ""), "", "")
	check(t, b.Slice(place(2), place(2), ""), "", "")
	check(t, b.Slice(place(-most-1), place(most), ""), "abcd", "")
	check(t, b.Slice(place(most), place(-most-1), ""), "", "")
	check(t, b.Slice(nil, place(-1), ""), "abc", "")
	check(t, b.Slice(place(-3), place(-1), ""), "bc", "")
	places := []int64{-most - 1, -most, -6, -5, -4, -3, -2, -1, 0, 1, 2, 3, 4, 5, 6, most}
	for _, from := range places {
		for _, to := range places {
			want := ""
			for k := int64(0); k < 4; k++ {
				if k >= meant(from) && k < meant(to) {
					want += "abcd"[k : k+1]
				}
			}
			check(t, b.Slice(&from, &to, "K"), want, "k")
		}
		check(t, b.Slice(&from, nil, ""), "abcd"[meant(from):], "")
		check(t, b.Slice(nil, &from, ""), "abcd"[:meant(from)], "")
	}
	check(t, b, "abcd", "x")
	check(t, b.Slice(place(1), nil, "").Slice(place(1), nil, ""), "cd", "")
	check(t, blob.New(nil, "").Slice(place(-1), place(1), ""), "", "")
}

// meant answers the place in four bytes that p means.
func meant(p int64) int64 {
	switch {
	case p <= -4:
		return 0
	case p < 0:
		return 4 + p
	case p > 4:
		return 4
	}
	return p
}

// P19.1: a nil Blob; R1: one that is made by hand.
func TestNil(t *testing.T) {
	var b *blob.Blob
	if b.Slice(nil, nil, "x") != nil || b.Slice(place(1), place(2), "x") != nil || len(b.Bytes()) != 0 || b.Kind() != "" || b.Len() != 0 {
		t.Error("nil")
	}
	zero := &blob.Blob{}
	zero.Slice(place(-1), place(1), "x")
	zero.Bytes()
	zero.Kind()
	zero.Len()
}

// R3: bytes never change, whoever writes into what was handed in or out; nor do places.
func TestMemory(t *testing.T) {
	room := []byte("abcdef")
	b := blob.New(room[:4], "")
	room[0] = 'x'
	b.Bytes()[1] = 'x'
	_ = append(b.Bytes(), 'x')
	from := int64(1)
	part := b.Slice(&from, nil, "")
	from = 2
	part.Bytes()[0] = 'x'
	check(t, b, "abcd", "")
	check(t, part, "bcd", "")
	if string(room) != "xbcdef" {
		t.Errorf("%q", room)
	}
}
