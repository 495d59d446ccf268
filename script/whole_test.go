package script_test

import (
	"slices"
	"strings"
	"testing"

	"carryall/answer"
	"carryall/api"
	"carryall/build"
	"carryall/data"
	"carryall/ident"
	"carryall/mime"
	"carryall/origin"
	"carryall/parse"
	"carryall/posix"
	"carryall/script"
	"carryall/sort"
	"carryall/stack"
	"carryall/url"
	"carryall/windows"
)

// drawer draws numbers, the same ones each time.
type drawer uint32

func (d *drawer) next(n int) int {
	*d ^= *d << 13
	*d ^= *d >> 17
	*d ^= *d << 5
	return int(*d>>8) % n
}

// piece is a blob as the model has it.
type piece struct {
	bytes, kind string
}

// bound is a URL as the model has it.
type bound struct {
	url   string
	owner int
	piece piece
}

// model does what the document says, by lists alone, of the operations that draw makes.
type model struct {
	blobs         map[int64]piece
	last          int64
	urls          []bound
	urgent, plain []string
}

func (m *model) size() int {
	sum := 0
	for _, p := range m.blobs {
		sum += len(p.bytes)
	}
	return sum
}

func (m *model) put(p piece) script.Result {
	if m.size()+len(p.bytes) > int(caps.Bytes) {
		return fails(api.ErrQuota)
	}
	if len(m.blobs) == caps.Blobs {
		return fails(api.ErrFull)
	}
	m.last++
	m.blobs[m.last] = p
	return script.Result{H: m.last}
}

// The origins that draw makes operations of; the model knows them by their number.
var owners = []api.Origin{{Nonce: 1}, {Nonce: 2}, {Scheme: "https", Host: "h", Port: api.NoPort}, {Scheme: "https", Host: "H"}}

func numberOf(o api.Origin) int {
	return slices.Index(owners, o)
}

func (m *model) find(text string, owner int) int {
	text, _, _ = strings.Cut(text, "#")
	return slices.IndexFunc(m.urls, func(b bound) bool { return b.url == text && b.owner == owner })
}

func (m *model) slice(o script.Op) script.Result {
	p, ok := m.blobs[o.H]
	if !ok {
		return fails(api.ErrNone)
	}
	from, to := 0, len(p.bytes)
	if o.Flag&1 != 0 {
		from = around(int(o.From), len(p.bytes))
	}
	if o.Flag&2 != 0 {
		to = around(int(o.To), len(p.bytes))
	}
	return m.put(piece{p.bytes[from:max(from, to)], strings.ToLower(o.T)})
}

func around(n, size int) int {
	if n < 0 {
		n = max(n+size, 0)
	}
	return min(n, size)
}

func (m *model) register(o script.Op) script.Result {
	p, ok := m.blobs[o.H]
	if !ok {
		return fails(api.ErrNone)
	}
	who := numberOf(o.O)
	text := []string{"blob:null/", "blob:null/", "blob:https://h/", ""}[who]
	if text == "" {
		return fails(api.ErrArg)
	}
	text += ident.Of(o.R)
	if slices.ContainsFunc(m.urls, func(b bound) bool { return b.url == text }) {
		return fails(api.ErrTwice)
	}
	if len(m.urls) == caps.Urls {
		return fails(api.ErrFull)
	}
	m.urls = append(m.urls, bound{text, who, p})
	if len(m.plain) < caps.Urls {
		m.plain = append(m.plain, "+"+text)
	}
	return script.Result{S: text}
}

func (m *model) revoke(o script.Op) script.Result {
	at := m.find(o.S, numberOf(o.O))
	if at < 0 {
		return fails(api.ErrNone)
	}
	if len(m.urgent) < caps.Urls {
		m.urgent = append(m.urgent, "-"+m.urls[at].url)
	}
	m.urls = slices.Delete(m.urls, at, at+1)
	return script.Result{}
}

func (m *model) fetch(o script.Op) script.Result {
	a := answer.Answer{Sort: sort.Blob}
	at := m.find(o.S, numberOf(o.O))
	if at < 0 || o.Flag&1 != 0 && o.T == "bad" {
		return script.Result{Errno: api.ErrNet, A: a}
	}
	p := m.urls[at].piece
	a.Status, a.Kind, a.Body, a.Total = 200, p.kind, []byte(p.bytes), int64(len(p.bytes))
	if o.Flag&1 != 0 {
		// The only range that draw makes: all but the first byte.
		a.Status, a.First = 206, 1
		if len(p.bytes) < 2 {
			return script.Result{A: answer.Answer{Sort: sort.Blob, Status: 416, Total: a.Total}}
		}
		a.Body = a.Body[1:]
	}
	return script.Result{A: a}
}

func (m *model) notice() script.Result {
	for _, box := range []*[]string{&m.urgent, &m.plain} {
		if len(*box) > 0 {
			text := (*box)[0]
			*box = (*box)[1:]
			return script.Result{S: text}
		}
	}
	return fails(api.ErrNone)
}

func (m *model) do(o script.Op) script.Result {
	switch o.Kind {
	case create:
		return m.put(piece{o.S, strings.ToLower(o.T)})
	case slice:
		return m.slice(o)
	case forget:
		if _, ok := m.blobs[o.H]; !ok {
			return fails(api.ErrNone)
		}
		delete(m.blobs, o.H)
		return script.Result{}
	case register:
		return m.register(o)
	case revoke:
		return m.revoke(o)
	case fetch:
		return m.fetch(o)
	case notice:
		return m.notice()
	}
	return fails(api.ErrArg)
}

// draw makes an operation, mostly of what is there.
func draw(d *drawer, m *model) script.Op {
	kinds := []uint8{create, create, slice, forget, register, register, revoke, fetch, fetch, notice, 0, 12}
	o := script.Op{Kind: kinds[d.next(len(kinds))], Flag: uint8(d.next(4)), From: int64(d.next(12) - 6), To: int64(d.next(12) - 6), O: owners[d.next(len(owners))]}
	o.H = max(m.last-int64(d.next(5)), 0)
	o.R[15] = byte(d.next(4))
	o.T = []string{"", "K", "Text/Plain"}[d.next(3)]
	switch o.Kind {
	case create:
		o.S = "abcdefghijklmnopqrstuvw"[:d.next(12)]
	case revoke, fetch:
		o.S = []string{"blob:null/", "blob:https://h/"}[d.next(2)] + ident.Of(o.R) + []string{"", "#f"}[d.next(2)]
		o.T = []string{"bytes=1-", "bad"}[d.next(2)]
	}
	return o
}

// P1, P2, P6: whatever script, operation by operation, against the model; bounds and handles besides.
func TestOneStack(t *testing.T) {
	for seed := range 60 {
		d := drawer(seed + 1)
		m := &model{blobs: map[int64]piece{}}
		s := made(t)
		var ops []script.Op
		var all []byte
		for k := range 300 {
			o := draw(&d, m)
			ops = append(ops, o)
			want := m.do(o)
			got := script.Do(s, o)
			all = append(all, script.Bytes(want)...)
			if !same(got, want) {
				t.Fatalf("seed %d, step %d, %v: %v, want %v", seed, k, o, got, want)
			}
			checkHeld(t, s, m)
		}
		if got, e := script.Run(caps, script.Encode(ops...)); e != api.OK || string(got) != string(all) {
			t.Fatalf("seed %d: Run answers something else, %v", seed, e)
		}
	}
}

// checkHeld looks at what a stack holds: just what the model does, and no more than the caps say.
func checkHeld(t *testing.T, s *stack.Stack, m *model) {
	t.Helper()
	var want []string
	for _, b := range m.urls {
		want = append(want, b.url)
	}
	if got := s.Urls(); !slices.Equal(got, want) || len(got) > caps.Urls {
		t.Fatalf("Urls: %q, want %q", got, want)
	}
	if got := s.Bytes(); got != int64(m.size()) || got > caps.Bytes || len(m.blobs) > caps.Blobs {
		t.Fatalf("Bytes: %d, want %d", got, m.size())
	}
}

// P2: to whom a blob's URL answers, and until when.
func TestBlobsOfWhom(t *testing.T) {
	s := made(t)
	h, _ := s.Create([]byte("abcde"), "k")
	mine, other := owners[0], owners[1]
	u, _ := s.Register(mine, h, [16]byte{1})
	whole := answer.Answer{Sort: sort.Blob, Status: 200, Kind: "k", Body: []byte("abcde"), Total: 5}
	check := func(text string, o api.Origin, span *string, want answer.Answer) {
		t.Helper()
		if got := s.Fetch(text, o, span); !answer.Same(got, want) {
			t.Errorf("Fetch(%q, %v): %v", text, o, got)
		}
	}
	none := answer.Answer{Sort: sort.Blob}
	part := "bytes=1-2"
	check(u, mine, nil, whole)
	check(u+"#x", mine, nil, whole)
	check(u, mine, &part, answer.Answer{Sort: sort.Blob, Status: 206, Kind: "k", Body: []byte("bc"), First: 1, Total: 5})
	for _, o := range owners[1:] {
		check(u, o, nil, none)
		if s.Revoke(u, o) {
			t.Errorf("%v revoked it", o)
		}
	}
	s.Forget(h)
	check(u, mine, nil, whole)
	if !s.Revoke(u+"#y", mine) {
		t.Error("not revoked")
	}
	check(u, mine, nil, none)
	check(u, other, nil, none)
}

// P3: what is built says type and bytes, both ways; whatever a data URL says, built anew, if it is, says the same.
func TestData(t *testing.T) {
	heads := []string{"", ";", "text/html", "TEXT/html;A=b", ";charset=x", "a/b;c=\"d e\"", "a/b;c=\"\\\"\"", "a/b;c=%41", "x", "a/b;base64=c", "a/b#", "a/b;c=\"?\"", "é/b", "a/b;c=é", " a/b "}
	bodies := []string{"", "a", "YQ==", "%41%00%FF", "a b", "a#b", "?", "é", "YQ", ",", " "}
	good := 0
	for _, head := range heads {
		for _, base := range []string{"", ";base64", "; BASE64"} {
			for _, body := range bodies {
				u, e := parse.Parse("data:"+head+base+","+body, nil)
				if e != api.OK {
					t.Fatalf("%q %q: %v", head, body, e)
				}
				if m, b, e := data.Process(u); e == api.OK {
					good += checkBuilt(t, m, b)
				}
			}
		}
	}
	if good < 300 {
		t.Errorf("only %d were built", good)
	}
}

// checkBuilt builds what was said both ways, and counts which are built.
func checkBuilt(t *testing.T, m api.Mime, b []byte) int {
	t.Helper()
	good := 0
	for _, base := range []bool{false, true} {
		s, e := build.Build(m, b, base)
		if build.Plain(m) && e != api.OK {
			t.Errorf("%q %q: %v", mime.Print(m), b, e)
		}
		if e != api.OK {
			continue
		}
		good++
		u, e := parse.Parse(s, nil)
		kind, body, err := data.Process(u)
		if e != api.OK || err != api.OK || !mime.Same(kind, m) || string(body) != string(b) {
			t.Errorf("%q says %q %q", s, mime.Print(kind), body)
		}
	}
	return good
}

// P4: each path that is fine comes back from its URL; no other one has a URL.
func TestFiles(t *testing.T) {
	pieces := []string{"/", "\\", "//", "\\\\", "c:", "C|", ".", "..", "a", "h", "localhost", "%2e", "%", "#", "?", " ", "é", "\xff", "\x00", "|", "1.2.3.4"}
	starts := []string{"", "/", "c:", "\\\\h"}
	d := drawer(5)
	counts := []int{0, 0}
	for range 60000 {
		p := starts[d.next(len(starts))]
		for range 1 + d.next(5) {
			p += pieces[d.next(len(pieces))]
		}
		for flavour, fine := range []bool{posix.Fine(p), windows.Fine(p)} {
			text, e := stack.ToUrl(flavour, p)
			if (e == api.OK) != fine || !fine && (e != api.ErrForm || text != "") {
				t.Fatalf("ToUrl(%d, %q): %q %v", flavour, p, text, e)
			}
			if !fine {
				continue
			}
			counts[flavour]++
			want := p
			if flavour == stack.Windows {
				want = strings.ReplaceAll(p, "/", "\\")
			}
			if back, e := stack.ToPath(flavour, text); e != api.OK || back != want {
				t.Fatalf("ToPath(%d, %q): %q %v, want %q", flavour, text, back, e, want)
			}
		}
	}
	if counts[0] < 300 || counts[1] < 300 {
		t.Errorf("only %v were fine", counts)
	}
}

// P5: written and parsed again; one sort; an origin just of the schemes that have one.
func TestUrls(t *testing.T) {
	starts := []string{"http:", "https://", "ftp:", "ws:", "wss:", "file:", "data:", "blob:", "blob:http:", "blob:https://", "blob:ftp:", "about:", "about:blank", "about:srcdoc", "javascript:", "x:"}
	pieces := []string{"/", "//", "\\", "a", "h", ":", ":80", "@", "?", "#", " ", "..", ".", "%2e", "C|", "[::1]", "1.2", ",", "é", "\t"}
	d := drawer(9)
	for range 60000 {
		s := starts[d.next(len(starts))]
		for range d.next(6) {
			s += pieces[d.next(len(pieces))]
		}
		u, e := parse.Parse(s, nil)
		if e != api.OK {
			continue
		}
		written := url.Print(u)
		if again, e := parse.Parse(written, nil); e != api.OK || !url.Same(again, u) || url.Print(again) != written {
			t.Fatalf("%q: %q, again %q %v", s, written, url.Print(again), e)
		}
		checkSort(t, u)
		checkOrigin(t, u)
	}
}

func checkSort(t *testing.T, u api.Url) {
	t.Helper()
	names := map[string]string{"data": "data", "blob": "blob", "file": "file", "about": "about", "javascript": "javascript"}
	want := names[u.Scheme]
	switch {
	case want == "":
		want = "unsupported"
	case u.Scheme == "about" && u.Opaque && (u.Text == "blank" || u.Text == "srcdoc"):
		want += "-" + u.Text
	}
	if got := sort.Name(sort.Of(u)); got != want {
		t.Fatalf("%q is of the sort %q", url.Print(u), got)
	}
}

func checkOrigin(t *testing.T, u api.Url) {
	t.Helper()
	from := u
	if u.Scheme == "blob" {
		inner, e := parse.Parse(url.Path(u), nil)
		if e != api.OK || inner.Scheme != "http" && inner.Scheme != "https" {
			inner = api.Url{}
		}
		from = inner
	}
	want := api.Origin{}
	has := slices.Contains([]string{"ftp", "http", "https", "ws", "wss"}, from.Scheme)
	if has {
		want = api.Origin{Scheme: from.Scheme, Host: from.Host, Port: from.Port}
	}
	if got, ok := origin.Of(u); got != want || ok != has {
		t.Fatalf("%q has the origin %v %v", url.Print(u), got, ok)
	}
}

// P6: the caps hold, a name is there once, and what is told is told in order.
func TestBounds(t *testing.T) {
	s := made(t)
	for k := range 2 * caps.Blobs {
		_, e := s.Create([]byte("abc"), "")
		if (e == api.OK) != (k < caps.Blobs) {
			t.Errorf("blob %d: %v", k, e)
		}
	}
	var urls []string
	for k := range 2 * caps.Urls {
		u, e := s.Register(owners[0], 1, [16]byte{byte(k)})
		if (e == api.OK) != (k < caps.Urls) {
			t.Errorf("URL %d: %v", k, e)
		}
		if e == api.OK {
			urls = append(urls, u)
		}
	}
	if _, e := s.Register(owners[1], 2, [16]byte{0}); e != api.ErrTwice {
		t.Errorf("the same name: %v", e)
	}
	s.Revoke(urls[1], owners[0])
	for _, want := range []string{"-" + urls[1], "+" + urls[0], "+" + urls[1]} {
		if got, ok := s.Notice(); got != want || !ok {
			t.Errorf("Notice: %q, want %q", got, want)
		}
	}
	if got, ok := s.Notice(); got != "" || ok {
		t.Errorf("Notice: %q", got)
	}
}
