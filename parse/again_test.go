package parse_test

import (
	"testing"

	"carryall/api"
	"carryall/parse"
	"carryall/url"
)

// P12.2: what is written of any URL is parsed as it; texts are put together of what matters to the parser.
func TestAgain(t *testing.T) {
	starts := []string{"", "http:", "file:", "x:", "HTTPS:", "about:"}
	pieces := []string{"/", "\\", "//", ".", "..", "%2e", "C|", "c:", "a", "@", ":", "?", "#", " ", "[", "]", "[::1]", "80", "0x1", "%41", "%", "é", "\xff", "\x00", "\t", "|", "'", "^", "localhost"}
	bases := []string{"", "http://u:p@h:81/a/b?q#f", "file:///C:/a?q", "file://h/a", "x://h", "x:/a/b", "x:/.//a", "x:a?q#f"}
	state := uint32(1)
	next := func(n int) int {
		state ^= state << 13
		state ^= state >> 17
		state ^= state << 5
		return int(state>>8) % n
	}
	good := 0
	for range 60000 {
		s := starts[next(len(starts))]
		for range next(7) {
			s += pieces[next(len(pieces))]
		}
		var base *api.Url
		if from := bases[next(len(bases))]; from != "" {
			u, _ := parse.Parse(from, nil)
			base = &u
		}
		u, e := parse.Parse(s, base)
		if e != api.OK {
			continue
		}
		good++
		written := url.Print(u)
		again, e := parse.Parse(written, nil)
		if e != api.OK || !url.Same(again, u) || url.Print(again) != written {
			t.Fatalf("%q: %q, again %q %v", s, written, url.Print(again), e)
		}
		if bare, e := parse.Parse(url.Bare(u), nil); e != api.OK || url.Print(bare) != url.Bare(u) {
			t.Fatalf("%q: bare %q", s, url.Bare(u))
		}
	}
	if good < 10000 {
		t.Errorf("only %d URLs", good)
	}
}
