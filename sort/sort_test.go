package sort_test

import (
	"testing"

	"carryall/api"
	"carryall/parse"
	"carryall/sort"
)

// P14.1: Of, and Name of it.
func TestOf(t *testing.T) {
	for _, c := range []struct {
		s    string
		want int
		name string
	}{
		{"data:,x", sort.Data, "data"},
		{"data://h/x", sort.Data, "data"},
		{"DATA:", sort.Data, "data"},
		{"blob:null/x", sort.Blob, "blob"},
		{"file:///a", sort.File, "file"},
		{"about:blank", sort.Blank, "about-blank"},
		{"about:blank?x#y", sort.Blank, "about-blank"},
		{"ABOUT:blank#", sort.Blank, "about-blank"},
		{"about:srcdoc", sort.Srcdoc, "about-srcdoc"},
		{"about:srcdoc?x#y", sort.Srcdoc, "about-srcdoc"},
		{"about:", sort.About, "about"},
		{"about:Blank", sort.About, "about"},
		{"about:SRCDOC", sort.About, "about"},
		{"about:blank ?x", sort.About, "about"},
		{"about:blanks", sort.About, "about"},
		{"about:/blank", sort.About, "about"},
		{"about://blank", sort.About, "about"},
		{"about:/srcdoc", sort.About, "about"},
		{"about:config", sort.About, "about"},
		{"javascript:1", sort.Script, "javascript"},
		{"http://a", sort.Other, "unsupported"},
		{"https://blank", sort.Other, "unsupported"},
		{"x:blank", sort.Other, "unsupported"},
		{"mailto:a", sort.Other, "unsupported"},
	} {
		u, e := parse.Parse(c.s, nil)
		if e != api.OK {
			t.Fatalf("%q: %v", c.s, e)
		}
		if got := sort.Of(u); got != c.want || sort.Name(got) != c.name {
			t.Errorf("Of(%q): %d %q", c.s, got, sort.Name(got))
		}
	}
}

// P14.1: URLs that are made by hand, numbers, and names.
func TestByHand(t *testing.T) {
	for _, c := range []struct {
		u    api.Url
		want int
	}{
		{api.Url{}, sort.Other},
		{api.Url{Scheme: "Data"}, sort.Other},
		{api.Url{Scheme: "about", Text: "blank"}, sort.About},
		{api.Url{Scheme: "about", Text: "srcdoc"}, sort.About},
		{api.Url{Scheme: "about", Path: []string{"blank"}}, sort.About},
		{api.Url{Scheme: "about", Opaque: true, Text: "blank", Path: []string{"x"}}, sort.Blank},
	} {
		if got := sort.Of(c.u); got != c.want {
			t.Errorf("Of(%v): %d", c.u, got)
		}
	}
	names := []string{"data", "blob", "file", "about-blank", "about-srcdoc", "about", "javascript", "unsupported"}
	for k, name := range names {
		if got := sort.Name(k); got != name {
			t.Errorf("Name(%d): %q", k, got)
		}
	}
	for _, k := range []int{-1, 8, 9, 255, 1 << 62, -1 << 63} {
		if got := sort.Name(k); got != "" {
			t.Errorf("Name(%d): %q", k, got)
		}
	}
}
