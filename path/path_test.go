package path_test

import (
	"slices"
	"strings"
	"testing"

	"carryall/path"
)

// P10.1: every text of dots and escaped dots, up to three of them.
func TestSingleAndDouble(t *testing.T) {
	dots := []string{".", "%2e", "%2E"}
	for _, one := range dots {
		checkDots(t, one, 1)
		for _, two := range dots {
			checkDots(t, one+two, 2)
			for _, three := range dots {
				checkDots(t, one+two+three, 3)
			}
		}
		for _, more := range []string{"a", " ", "%", "%2", "2e", "/", "\x00"} {
			checkDots(t, one+more, 0)
			checkDots(t, more+one, 0)
			checkDots(t, one+more+one, 0)
			checkDots(t, one+one+more, 0)
		}
	}
	for _, s := range []string{"", "%2", "%2f", "%2d", "%", "%3e", "2e", "e", "%%2e", "%252e", "..."} {
		checkDots(t, s, 0)
	}
}

func checkDots(t *testing.T, s string, dots int) {
	t.Helper()
	if got := path.Single(s); got != (dots == 1) {
		t.Errorf("Single(%q): %v", s, got)
	}
	if got := path.Double(s); got != (dots == 2) {
		t.Errorf("Double(%q): %v", s, got)
	}
}

// P10.1: every pair of bytes as a drive, and what may stand behind one.
func TestDrives(t *testing.T) {
	for k := range 256 {
		for j := range 256 {
			s := string([]byte{byte(k), byte(j)})
			letter := k >= 'a' && k <= 'z' || k >= 'A' && k <= 'Z'
			drive := letter && (j == ':' || j == '|')
			if path.Drive(s) != drive || path.Normal(s) != (letter && j == ':') || path.Begins(s) != drive {
				t.Errorf("%q: %v %v %v", s, path.Drive(s), path.Normal(s), path.Begins(s))
			}
		}
		s := "c|" + string([]byte{byte(k)})
		if path.Drive(s) || path.Normal("c:"+s[2:]) || path.Begins(s) != (strings.IndexByte("/\\?#", byte(k)) >= 0) || path.Begins(s) != path.Begins(s+"x") {
			t.Errorf("%q", s)
		}
	}
	for _, s := range []string{"", "c", ":", "é:", "cc:", "/c:", "c%3A", "c:/"} {
		if path.Drive(s) || path.Normal(s) {
			t.Errorf("Drive(%q)", s)
		}
	}
	if path.Begins("") || path.Begins("c") || path.Begins("/c:") || path.Begins("cc:/") || !path.Begins("C:/x") || !path.Begins("z|\\..") || path.Begins("c:d/") {
		t.Error("Begins")
	}
}

// P10.1: Shorten.
func TestShorten(t *testing.T) {
	for _, c := range []struct {
		file       bool
		path, want []string
	}{
		{false, nil, nil},
		{true, nil, nil},
		{false, []string{"a"}, nil},
		{true, []string{"a"}, nil},
		{true, []string{""}, nil},
		{false, []string{"a", "b"}, []string{"a"}},
		{false, []string{"c:"}, nil},
		{true, []string{"c:"}, []string{"c:"}},
		{true, []string{"C:"}, []string{"C:"}},
		{true, []string{"c|"}, nil},
		{true, []string{"c:", "a"}, []string{"c:"}},
		{true, []string{"c:", "d:"}, []string{"c:"}},
		{true, []string{"", "c:"}, []string{""}},
		{true, []string{"c:x"}, nil},
	} {
		if got := path.Shorten(c.file, c.path...); !slices.Equal(got, c.want) {
			t.Errorf("Shorten(%v, %q): %q", c.file, c.path, got)
		}
	}
}

// P10.2: Walk. The kinds are file, special, and other schemes.
func TestWalk(t *testing.T) {
	for _, c := range []struct {
		file, special bool
		path          []string
		s             string
		want          []string
	}{
		{false, true, []string{"a", "b"}, "../c/.", []string{"a", "c", ""}},
		{false, false, nil, "", []string{""}},
		{true, true, nil, "", []string{""}},
		{false, false, []string{"a"}, "", []string{"a", ""}},
		{false, false, nil, "a", []string{"a"}},
		{false, false, nil, "a/", []string{"a", ""}},
		{false, false, nil, "/a", []string{"", "a"}},
		{false, false, nil, "x/yx", []string{"x", "yx"}},
		{true, true, nil, "x\\yx", []string{"x", "yx"}},
		{false, false, nil, "//", []string{"", "", ""}},
		{false, false, nil, ".", []string{""}},
		{false, false, nil, "./", []string{""}},
		{false, false, nil, "./.", []string{""}},
		{false, false, nil, "..", []string{""}},
		{false, false, nil, "../", []string{""}},
		{false, false, nil, "../..", []string{""}},
		{false, false, nil, "../../a", []string{"a"}},
		{false, false, nil, "a/..", []string{""}},
		{false, false, nil, "a/../b", []string{"b"}},
		{false, false, nil, "a/b/..", []string{"a", ""}},
		{false, false, nil, "a/b/../", []string{"a", ""}},
		{false, false, nil, "a/b/../c", []string{"a", "c"}},
		{false, false, nil, "a//..", []string{"a", ""}},
		{false, false, nil, "a//../b", []string{"a", "b"}},
		{false, false, nil, "a/./b/.", []string{"a", "b", ""}},
		{false, false, nil, "a/%2e/b/%2E%2e/c/.%2E", []string{"a", ""}},
		{false, false, nil, "a/.../b", []string{"a", "...", "b"}},
		{false, false, nil, "..a/.a", []string{"..a", ".a"}},
		{false, false, nil, "a b/%/%41\xff\"#<>?^`{}|", []string{"a%20b", "%", "%41%FF%22%23%3C%3E%3F%5E%60%7B%7D|"}},
		{false, false, nil, "a\\b", []string{"a\\b"}},
		{false, false, nil, "a\\..\\b", []string{"a\\..\\b"}},
		{false, true, nil, "a\\b", []string{"a", "b"}},
		{false, true, nil, "a\\..\\b\\", []string{"b", ""}},
		{false, true, nil, "a/..\\../b", []string{"b"}},
		{false, true, nil, "\\/", []string{"", "", ""}},
		{true, false, nil, "a\\b", []string{"a\\b"}},
		{true, true, nil, "C|", []string{"C:"}},
		{true, true, nil, "c|/x", []string{"c:", "x"}},
		{true, true, nil, "c:/x", []string{"c:", "x"}},
		{false, true, nil, "C|/x", []string{"C|", "x"}},
		{true, true, nil, "c|/..", []string{"c:", ""}},
		{true, true, nil, "c|/../..", []string{"c:", ""}},
		{true, true, nil, "c|/../a", []string{"c:", "a"}},
		{true, true, nil, "c:/a/../../b", []string{"c:", "b"}},
		{false, true, nil, "c:/a/../../b", []string{"b"}},
		{true, true, nil, "../c|", []string{"c:"}},
		{true, true, nil, "./c|", []string{"c:"}},
		{true, true, nil, "a/../c|", []string{"c:"}},
		{true, true, nil, "/c|", []string{"", "c|"}},
		{true, true, nil, "a/c|", []string{"a", "c|"}},
		{true, true, []string{"a"}, "c|", []string{"a", "c|"}},
		{true, true, []string{"a"}, "../c|", []string{"c:"}},
		{true, true, []string{"c:"}, "../d|", []string{"c:", "d|"}},
		{true, true, []string{"c:"}, "..", []string{"c:", ""}},
		{true, true, []string{"c|"}, "..", []string{""}},
		{true, true, nil, "c|x", []string{"c|x"}},
		{true, true, nil, "1|", []string{"1|"}},
	} {
		if got := path.Walk(c.file, c.special, c.path, c.s); !slices.Equal(got, c.want) {
			t.Errorf("Walk(%v, %v, %q, %q): %q, want %q", c.file, c.special, c.path, c.s, got, c.want)
		}
	}
}

// R3: the path that is handed in stays, its spare room too, and isn't handed out.
func TestArgumentsStay(t *testing.T) {
	room := []string{"a", "b", "c", "d"}
	short := path.Shorten(false, room[:2]...)
	short[0] = "x"
	_ = append(short, "y")
	walked := path.Walk(false, false, room[:2], "../z/.")
	walked[0] = "x"
	same := path.Walk(false, false, room[:2], "e")
	same[1] = "x"
	kept := path.Shorten(true, "c:")
	_ = append(kept, "y")
	if !slices.Equal(room, []string{"a", "b", "c", "d"}) {
		t.Errorf("%q", room)
	}
}

// P10.2: long texts.
func TestLong(t *testing.T) {
	const n = 1 << 10
	if got := path.Walk(true, true, nil, strings.Repeat("a/", n)+strings.Repeat("../", n)); !slices.Equal(got, []string{""}) {
		t.Errorf("%d segments", len(got))
	}
	if path.Double(strings.Repeat("%2e", n)) || path.Single(strings.Repeat(".", n)) || path.Double(strings.Repeat(".", n)) {
		t.Error("dots")
	}
}
