package fetch_test

import (
	"strings"
	"testing"

	"carryall/answer"
	"carryall/api"
	"carryall/blob"
	"carryall/fetch"
	"carryall/sort"
	"carryall/url"
)

// blobs tells one blob by one URL, to one origin.
type blobs struct {
	url   string
	owner api.Origin
	b     *blob.Blob
}

func (l blobs) Blob(u api.Url, o api.Origin) (*blob.Blob, bool) {
	if url.Bare(u) != l.url || o != l.owner {
		return nil, false
	}
	return l.b, true
}

var owner = api.Origin{Nonce: 5}

func some(bytes, kind string) blobs {
	return blobs{url: "blob:null/x", owner: owner, b: blob.New([]byte(bytes), kind)}
}

func check(t *testing.T, l fetch.Blobs, s string, o api.Origin, span *string, want answer.Answer) {
	t.Helper()
	if got := fetch.Fetch(l, s, o, span); !answer.Same(got, want) {
		t.Errorf("Fetch(%.80q): %v, want %v", s, got, want)
	}
}

// P26.1: all sorts but blobs; who asks, and for which range, makes no difference.
func TestSorts(t *testing.T) {
	span := "bytes=0-0"
	for _, c := range []struct {
		s    string
		want answer.Answer
	}{
		{"", answer.Answer{Sort: sort.Other}},
		{"x", answer.Answer{Sort: sort.Other}},
		{"#", answer.Answer{Sort: sort.Other}},
		{"http://", answer.Answer{Sort: sort.Other}},
		{"data:," + strings.Repeat("a", api.MaxText), answer.Answer{Sort: sort.Other}},
		{"http://a/", answer.Answer{Sort: sort.Other}},
		{"x:y", answer.Answer{Sort: sort.Other}},
		{"file:///a", answer.Answer{Sort: sort.File}},
		{"javascript:1", answer.Answer{Sort: sort.Script}},
		{"about:", answer.Answer{Sort: sort.About}},
		{"about:srcdoc", answer.Answer{Sort: sort.Srcdoc}},
		{"about:blank", answer.Answer{Sort: sort.Blank, Status: 200, Kind: "text/html;charset=utf-8"}},
		{" ABOUT:blank?x#y ", answer.Answer{Sort: sort.Blank, Status: 200, Kind: "text/html;charset=utf-8"}},
		{"data:,a%20b", answer.Answer{Sort: sort.Data, Status: 200, Kind: "text/plain;charset=US-ASCII", Body: []byte("a b"), Total: 3}},
		{"data:a/b;c=\"d e\";base64,YQ#x", answer.Answer{Sort: sort.Data, Status: 200, Kind: "a/b;c=\"d e\"", Body: []byte("a"), Total: 1}},
		{"data:A/B,", answer.Answer{Sort: sort.Data, Status: 200, Kind: "a/b"}},
		{"data:", answer.Answer{Sort: sort.Data}},
		{"data:;base64,Y", answer.Answer{Sort: sort.Data}},
		{"blob:null/y", answer.Answer{Sort: sort.Blob}},
		{"blob:", answer.Answer{Sort: sort.Blob}},
	} {
		for _, o := range []api.Origin{{}, owner, {Scheme: "https", Host: "a", Port: api.NoPort}} {
			check(t, nil, c.s, o, nil, c.want)
			check(t, nil, c.s, o, &span, c.want)
			check(t, some("abc", "k"), c.s, o, nil, c.want)
			check(t, some("abc", "k"), c.s, o, &span, c.want)
		}
	}
}

// P26.1: whole blobs.
func TestBlob(t *testing.T) {
	l := some("abcde", "Text/PLAIN")
	want := answer.Answer{Sort: sort.Blob, Status: 200, Kind: "text/plain", Body: []byte("abcde"), Total: 5}
	none := answer.Answer{Sort: sort.Blob}
	check(t, l, "blob:null/x", owner, nil, want)
	check(t, l, "blob:null/x#f", owner, nil, want)
	check(t, l, " BLOB:null/x", owner, nil, want)
	check(t, l, "blob:null/x?", owner, nil, none)
	check(t, l, "blob:null/x", api.Origin{Nonce: 6}, nil, none)
	check(t, l, "blob:null/xy", owner, nil, none)
	check(t, nil, "blob:null/x", owner, nil, none)
	check(t, some("", ""), "blob:null/x", owner, nil, answer.Answer{Sort: sort.Blob, Status: 200})
}

// P26.1: parts of blobs.
func TestParts(t *testing.T) {
	part := func(first int64, body string) answer.Answer {
		return answer.Answer{Sort: sort.Blob, Status: 206, Kind: "k", Body: []byte(body), First: first, Total: 5}
	}
	none := answer.Answer{Sort: sort.Blob, Status: 416, Total: 5}
	nothing := answer.Answer{Sort: sort.Blob}
	for _, c := range []struct {
		span string
		want answer.Answer
	}{
		{"bytes=0-0", part(0, "a")},
		{"bytes=1-3", part(1, "bcd")},
		{"bytes=1-", part(1, "bcde")},
		{"bytes=0-", part(0, "abcde")},
		{"bytes=-2", part(3, "de")},
		{"bytes=-9", part(0, "abcde")},
		{"bytes=0-4", part(0, "abcde")},
		{"bytes=4-4", part(4, "e")},
		{"bytes=4-5", part(4, "e")},
		{"Bytes = 2 - 99999999999999999999", part(2, "cde")},
		{"bytes=5-", none},
		{"bytes=5-6", none},
		{"bytes=-0", none},
		{"bytes=99999999999999999999-", none},
		{"", nothing},
		{"bytes=", nothing},
		{"bytes=-", nothing},
		{"bytes=3-1", nothing},
		{"bytes=0-1,3-4", nothing},
		{"bytes=0-1 ", nothing},
		{"chars=0-1", nothing},
	} {
		check(t, some("abcde", "K"), "blob:null/x", owner, &c.span, c.want)
		check(t, some("abcde", "K"), "blob:null/x", api.Origin{}, &c.span, nothing)
	}
	all := "bytes=0-"
	check(t, some("", "k"), "blob:null/x", owner, &all, answer.Answer{Sort: sort.Blob, Status: 416})
}

// R3: what is answered is new; what is handed in stays.
func TestMemory(t *testing.T) {
	span := "bytes=0-0"
	l := some("abc", "k")
	for _, asked := range []*string{nil, &span} {
		a := fetch.Fetch(l, "blob:null/x", owner, asked)
		a.Body[0] = 'x'
		_ = append(a.Body, 'y')
	}
	if string(l.b.Bytes()) != "abc" || span != "bytes=0-0" {
		t.Errorf("%q", l.b.Bytes())
	}
}
