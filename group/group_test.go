package group_test

import (
	"slices"
	"strings"
	"testing"

	"carryall/api"
	"carryall/group"
)

// P6.1: each type's groups; In says the same of each group.
func TestGroups(t *testing.T) {
	for _, c := range []struct {
		essence string
		want    []int
	}{
		{"image/svg+xml", []int{0, 5, 7}},
		{"image/png", []int{0}},
		{"image/", []int{0}},
		{"audio/basic", []int{1}},
		{"video/mp4", []int{1}},
		{"application/ogg", []int{1}},
		{"audio/ogg+json", []int{1, 8}},
		{"text/ogg", nil},
		{"font/woff2", []int{2}},
		{"font/x+zip", []int{2, 3}},
		{"application/font-cff", []int{2}},
		{"application/font-off", []int{2}},
		{"application/font-sfnt", []int{2}},
		{"application/font-ttf", []int{2}},
		{"application/font-woff", []int{2}},
		{"application/vnd.ms-fontobject", []int{2}},
		{"application/vnd.ms-opentype", []int{2}},
		{"application/font-woff2", nil},
		{"text/font-ttf", nil},
		{"text/vnd.ms-opentype", nil},
		{"application/zip", []int{3, 4}},
		{"application/epub+zip", []int{3}},
		{"text/+zip", []int{3}},
		{"text/zip", nil},
		{"application/x-zip", nil},
		{"application/+zip2", nil},
		{"application/x-rar-compressed", []int{4}},
		{"application/x-gzip", []int{4}},
		{"application/gzip", nil},
		{"text/x-gzip", nil},
		{"text/xml", []int{5, 7}},
		{"application/xml", []int{5, 7}},
		{"a/+xml", []int{5, 7}},
		{"a/xml", nil},
		{"a/+xmlb", nil},
		{"text/html", []int{6, 7}},
		{"application/html", nil},
		{"application/xhtml+xml", []int{5, 7}},
		{"application/pdf", []int{7}},
		{"text/pdf", nil},
		{"application/json", []int{8}},
		{"text/json", []int{8}},
		{"application/ld+json", []int{8}},
		{"a/json", nil},
		{"a/json+", nil},
		{"application/ecmascript", []int{9}},
		{"application/javascript", []int{9}},
		{"application/x-ecmascript", []int{9}},
		{"application/x-javascript", []int{9}},
		{"text/ecmascript", []int{9}},
		{"text/javascript", []int{9}},
		{"text/javascript1.0", []int{9}},
		{"text/javascript1.1", []int{9}},
		{"text/javascript1.2", []int{9}},
		{"text/javascript1.3", []int{9}},
		{"text/javascript1.4", []int{9}},
		{"text/javascript1.5", []int{9}},
		{"text/javascript1.6", nil},
		{"text/javascript1", nil},
		{"application/javascript1.0", nil},
		{"text/jscript", []int{9}},
		{"text/livescript", []int{9}},
		{"text/x-ecmascript", []int{9}},
		{"text/x-javascript", []int{9}},
		{"application/jscript", nil},
		{"application/livescript", nil},
		{"text/plain", nil},
		{"application/octet-stream", nil},
		{"/", nil},
		{"Image/png", nil},
		{"image2/png", nil},
		{"Audio/x", nil},
		{"text/HTML", nil},
		{"application/PDF", nil},
		{"a/b+ZIP", nil},
		{"a/b+XML", nil},
		{"a/b+Json", nil},
		{"text/JavaScript", nil},
	} {
		kind, sub, _ := strings.Cut(c.essence, "/")
		m := api.Mime{Type: kind, Sub: sub, Params: []api.Param{{Name: "charset", Value: "image/svg+xml"}}}
		if got := group.All(m); !slices.Equal(got, c.want) {
			t.Errorf("All(%s): %v, want %v", c.essence, got, c.want)
		}
		for k := -2; k < 15; k++ {
			if got := group.In(k, m); got != slices.Contains(c.want, k) {
				t.Errorf("In(%d, %s): %v", k, c.essence, got)
			}
		}
		if group.In(-1<<63, m) || group.In(1<<62, m) {
			t.Errorf("%s is in a group that there isn't", c.essence)
		}
	}
}
