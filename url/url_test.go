package url_test

import (
	"strings"
	"testing"

	"carryall/api"
	"carryall/url"
)

// P11.1: the special schemes and their ports.
func TestSchemes(t *testing.T) {
	for _, c := range []struct {
		scheme  string
		special bool
		port    int
	}{
		{"ftp", true, 21}, {"file", true, api.NoPort}, {"http", true, 80}, {"https", true, 443}, {"ws", true, 80}, {"wss", true, 443},
		{"", false, api.NoPort}, {"HTTP", false, api.NoPort}, {"http:", false, api.NoPort}, {"data", false, api.NoPort}, {"blob", false, api.NoPort},
		{"gopher", false, api.NoPort}, {"about", false, api.NoPort}, {"File", false, api.NoPort}, {"sftp", false, api.NoPort}, {"ftps", false, api.NoPort},
	} {
		if url.Special(c.scheme) != c.special || url.Default(c.scheme) != c.port {
			t.Errorf("%q: %v %d", c.scheme, url.Special(c.scheme), url.Default(c.scheme))
		}
	}
}

// P11.1: Print, Bare and Path.
func TestPrint(t *testing.T) {
	for _, c := range []struct {
		u           api.Url
		print, path string
	}{
		{api.Url{Scheme: "http", HasHost: true, Host: "a", Port: api.NoPort, Path: []string{""}}, "http://a/", "/"},
		{api.Url{Scheme: "http", HasHost: true, Host: "a", Port: api.NoPort}, "http://a", ""},
		{api.Url{Scheme: "http", HasHost: true, Host: "a", Port: 8080, Path: []string{"b", "c"}}, "http://a:8080/b/c", "/b/c"},
		{api.Url{Scheme: "http", HasHost: true, Host: "a", Port: 0, Path: []string{"b"}}, "http://a:0/b", "/b"},
		{api.Url{Scheme: "http", HasHost: true, Host: "a", Port: 80, Path: []string{"b"}}, "http://a:80/b", "/b"},
		{api.Url{Scheme: "http", HasHost: true, Host: "a", Port: -2, Path: []string{"b"}}, "http://a:-2/b", "/b"},
		{api.Url{Scheme: "http", HasHost: true, Host: "a", Port: -1 << 63, Path: []string{"b"}}, "http://a:-9223372036854775808/b", "/b"},
		{api.Url{Scheme: "http", HasHost: true, Host: "a", Port: 99999, Path: []string{"b"}}, "http://a:99999/b", "/b"},
		{api.Url{Scheme: "http", Username: "u", HasHost: true, Host: "a", Port: api.NoPort, Path: []string{"b"}}, "http://u@a/b", "/b"},
		{api.Url{Scheme: "http", Password: "p", HasHost: true, Host: "a", Port: api.NoPort, Path: []string{"b"}}, "http://:p@a/b", "/b"},
		{api.Url{Scheme: "http", Username: "u", Password: "p", HasHost: true, Host: "a", Port: 1, Path: []string{"b"}}, "http://u:p@a:1/b", "/b"},
		{api.Url{Scheme: "file", HasHost: true, Port: api.NoPort, Path: []string{"C:", "x"}}, "file:///C:/x", "/C:/x"},
		{api.Url{Scheme: "x", Username: "u", Password: "p", Host: "a", Port: 8, Path: []string{"b"}}, "x:/b", "/b"},
		{api.Url{Scheme: "web+demo", Port: api.NoPort, Path: []string{"", "a"}}, "web+demo:/.//a", "//a"},
		{api.Url{Scheme: "web+demo", Port: api.NoPort, Path: []string{""}}, "web+demo:/", "/"},
		{api.Url{Scheme: "web+demo", Port: api.NoPort, Path: []string{"", ""}}, "web+demo:/.//", "//"},
		{api.Url{Scheme: "web+demo", Port: api.NoPort, Path: []string{"a", ""}}, "web+demo:/a/", "/a/"},
		{api.Url{Scheme: "web+demo", Port: api.NoPort}, "web+demo:", ""},
		{api.Url{Scheme: "web+demo", HasHost: true, Port: api.NoPort, Path: []string{"", "a"}}, "web+demo:////a", "//a"},
		{api.Url{Scheme: "data", Opaque: true, Text: ",x", Port: api.NoPort}, "data:,x", ",x"},
		{api.Url{Scheme: "data", Opaque: true, Text: ",x", Port: api.NoPort, Path: []string{"", "a"}}, "data:,x", ",x"},
		{api.Url{Scheme: "data", Text: ",x", Port: api.NoPort, Path: []string{"a"}}, "data:/a", "/a"},
		{api.Url{Scheme: "data", Opaque: true, HasHost: true, Host: "h", Text: ",x", Port: 5}, "data://h:5,x", ",x"},
		{api.Url{Port: api.NoPort}, ":", ""},
	} {
		if got := url.Path(c.u); got != c.path {
			t.Errorf("Path of %s: %q", c.print, got)
		}
		checkPrint(t, c.u, c.print)
	}
}

// checkPrint looks at u with and without a query and a fragment, there or only made out.
func checkPrint(t *testing.T, u api.Url, want string) {
	t.Helper()
	for _, query := range []string{"", "q?=1"} {
		for _, fragment := range []string{"", "f#?"} {
			for has := range 4 {
				u.HasQuery, u.HasFragment = has&1 == 1, has&2 == 2
				u.Query, u.Fragment = query, fragment
				bare := want
				if u.HasQuery {
					bare += "?" + query
				}
				print := bare
				if u.HasFragment {
					print += "#" + fragment
				}
				if got := url.Print(u); got != print {
					t.Errorf("Print: %q, want %q", got, print)
				}
				if got := url.Bare(u); got != bare {
					t.Errorf("Bare: %q, want %q", got, bare)
				}
			}
		}
	}
}

// P11.1: Same looks at each field, but at those that aren't there.
func TestSame(t *testing.T) {
	u := api.Url{Scheme: "s", Username: "u", Password: "p", Host: "h", HasHost: true, Port: 1, Path: []string{"a", "b"}, HasQuery: true, HasFragment: true, Query: "q", Fragment: "f"}
	opaque := u
	opaque.Opaque, opaque.Text = true, "t"
	for name, change := range map[string]func(*api.Url){
		"Scheme":      func(u *api.Url) { u.Scheme = "x" },
		"Username":    func(u *api.Url) { u.Username = "x" },
		"Password":    func(u *api.Url) { u.Password = "x" },
		"Host":        func(u *api.Url) { u.Host = "x" },
		"HasHost":     func(u *api.Url) { u.HasHost = false },
		"Port":        func(u *api.Url) { u.Port = 2 },
		"Opaque":      func(u *api.Url) { u.Opaque = !u.Opaque },
		"HasQuery":    func(u *api.Url) { u.HasQuery = false },
		"HasFragment": func(u *api.Url) { u.HasFragment = false },
		"Query":       func(u *api.Url) { u.Query = "x" },
		"Fragment":    func(u *api.Url) { u.Fragment = "x" },
	} {
		for _, base := range []api.Url{u, opaque} {
			other := base
			change(&other)
			if url.Same(base, other) || url.Same(other, base) || !url.Same(other, other) {
				t.Errorf("%s of %v", name, base)
			}
		}
	}
	for _, path := range [][]string{nil, {"a"}, {"a", "c"}, {"b", "a"}, {"a", "b", ""}, {"a/b"}} {
		other := u
		other.Path = path
		if url.Same(u, other) || url.Same(other, u) {
			t.Errorf("path %q", path)
		}
		other = opaque
		other.Path = path
		if !url.Same(opaque, other) || !url.Same(other, opaque) {
			t.Errorf("path %q of an opaque one", path)
		}
	}
	other := opaque
	other.Text = "x"
	if url.Same(opaque, other) {
		t.Error("Text")
	}
	other = u
	other.Text = "x"
	if !url.Same(u, other) {
		t.Error("Text of one that isn't opaque")
	}
}

// P11.1: Host, Query and Fragment of one that hasn't it aren't looked at; a list of nothing is nil or empty.
func TestSameWithout(t *testing.T) {
	a := api.Url{Scheme: "s", Port: api.NoPort}
	b := api.Url{Scheme: "s", Port: api.NoPort, Host: "h", Query: "q", Fragment: "f", Text: "t", Path: []string{}}
	if !url.Same(a, b) || !url.Same(b, a) {
		t.Error("without")
	}
	a.HasHost, b.HasHost = true, true
	if url.Same(a, b) {
		t.Error("Host")
	}
	b.Host = ""
	a.HasQuery, b.HasQuery = true, true
	if url.Same(a, b) {
		t.Error("Query")
	}
	b.Query = ""
	a.HasFragment, b.HasFragment = true, true
	if url.Same(a, b) {
		t.Error("Fragment")
	}
}

// R3: the URL that is handed in stays, a long one too.
func TestArgumentsStay(t *testing.T) {
	room := []string{"", "a", "b"}
	u := api.Url{Scheme: "x", Port: api.NoPort, Path: room[:2]}
	url.Print(u)
	url.Path(u)
	if strings.Join(room, ",") != ",a,b" {
		t.Errorf("%q", room)
	}
	u.Path = strings.Split(strings.Repeat("a/", 1<<10), "/")
	if got := url.Print(u); len(got) != 2+1+1<<11 {
		t.Errorf("%d bytes", len(got))
	}
}
