package parse

import (
	"slices"
	"strings"

	"carryall/api"
	"carryall/escape"
	"carryall/host"
	"carryall/path"
	"carryall/url"
	"carryall/utf"
)

// maxPort is the greatest port.
const maxPort = 65535

// slashes answers the bytes that are slashes of a scheme.
func slashes(scheme string) string {
	if url.Special(scheme) {
		return "/\\"
	}
	return "/"
}

// isSlash tells whether s has a slash of that scheme at that place.
func isSlash(scheme, s string, place int) bool {
	return place < len(s) && strings.IndexByte(slashes(scheme), s[place]) >= 0
}

// untilSlash answers what stands ahead of the first slash of s, and all from there on.
func untilSlash(scheme, s string) (string, string) {
	at := strings.IndexAny(s, slashes(scheme))
	if at < 0 {
		return s, ""
	}
	return s[:at], s[at:]
}

// walk answers the path that comes of a URL's path when the segments of s follow.
func walk(scheme string, segments []string, s string) []string {
	return path.Walk(scheme == "file", url.Special(scheme), segments, s)
}

// rooted is what the chapter calls PATH of s.
func rooted(scheme, s string) []string {
	if s == "" && !url.Special(scheme) {
		return nil
	}
	if isSlash(scheme, s, 0) {
		s = s[1:]
	}
	return walk(scheme, nil, s)
}

// hosted answers a URL of the base's scheme and host, and of nothing else.
func hosted(base api.Url) api.Url {
	return api.Url{Scheme: base.Scheme, Username: base.Username, Password: base.Password, Host: base.Host, HasHost: base.HasHost, Port: base.Port}
}

// along answers u with the base's path and query.
func along(u, base api.Url) api.Url {
	u.Path = slices.Clone(base.Path)
	u.HasQuery, u.Query = base.HasQuery, base.Query
	return u
}

// relative is what the chapter calls RELATIVE.
func relative(rest string, base api.Url) (api.Url, bool) {
	scheme := base.Scheme
	if isSlash(scheme, rest, 0) && isSlash(scheme, rest, 1) {
		rest = rest[2:]
		if url.Special(scheme) {
			rest = strings.TrimLeft(rest, slashes(scheme))
		}
		return authority(scheme, rest)
	}
	u := hosted(base)
	switch {
	case isSlash(scheme, rest, 0):
		u.Path = rooted(scheme, rest)
	case rest == "":
		u = along(u, base)
	default:
		u.Path = walk(scheme, path.Shorten(false, base.Path...), rest)
	}
	return u, true
}

// authority is what the chapter calls AUTHORITY.
func authority(scheme, s string) (api.Url, bool) {
	whom, behind := untilSlash(scheme, s)
	u := api.Url{Scheme: scheme, HasHost: true}
	if at := strings.LastIndexByte(whom, '@'); at >= 0 {
		name, word, _ := strings.Cut(whom[:at], ":")
		u.Username = escape.Encode(escape.Userinfo, []byte(name))
		u.Password = escape.Encode(escape.Userinfo, []byte(word))
		if whom = whom[at+1:]; whom == "" {
			return api.Url{}, false
		}
	}
	name, digits, colon := hostAndPort(whom)
	if colon && name == "" {
		return api.Url{}, false
	}
	var hostOk, portOk bool
	u.Host, hostOk = host.Parse(name, url.Special(scheme))
	u.Port, portOk = port(scheme, digits)
	if !hostOk || !portOk {
		return api.Url{}, false
	}
	u.Path = rooted(scheme, behind)
	return u, true
}

// hostAndPort answers what stands ahead of the first colon of s that isn't between brackets, what stands behind it, and whether there is one.
func hostAndPort(s string) (string, string, bool) {
	inside := false
	for k := 0; k < len(s); k++ {
		switch {
		case s[k] == '[':
			inside = true
		case s[k] == ']':
			inside = false
		case s[k] == ':' && !inside:
			return s[:k], s[k+1:], true
		}
	}
	return s, "", false
}

// port answers the port of these digits, and whether they are one.
func port(scheme, digits string) (int, bool) {
	if digits == "" {
		return api.NoPort, true
	}
	n := 0
	for k := 0; k < len(digits); k++ {
		if !utf.Digit(digits[k]) {
			return 0, false
		}
		n = min(n*10+int(digits[k]-'0'), maxPort+1)
	}
	if n == url.Default(scheme) {
		return api.NoPort, true
	}
	return n, n <= maxPort
}

// file is what the chapter calls FILE, with a base of that scheme or without one.
func file(rest string, base *api.Url) (api.Url, bool) {
	const scheme = "file"
	if isSlash(scheme, rest, 0) && isSlash(scheme, rest, 1) {
		return far(rest[2:])
	}
	u := api.Url{Scheme: scheme, HasHost: true, Port: api.NoPort}
	var segments []string
	if base != nil {
		u, segments = hosted(*base), base.Path
	}
	switch {
	case isSlash(scheme, rest, 0):
		rest = rest[1:]
		if len(segments) > 0 && path.Normal(segments[0]) && !path.Begins(rest) {
			segments = segments[:1]
		} else {
			segments = nil
		}
	case base != nil && rest == "":
		return along(u, *base), true
	case path.Begins(rest):
		segments = nil
	default:
		segments = path.Shorten(true, segments...)
	}
	u.Path = walk(scheme, segments, rest)
	return u, true
}

// far answers the URL of the scheme file of what stands behind two slashes.
func far(s string) (api.Url, bool) {
	const scheme = "file"
	u := api.Url{Scheme: scheme, HasHost: true, Port: api.NoPort}
	whom, behind := untilSlash(scheme, s)
	if path.Drive(whom) {
		behind = s
	} else if whom != "" {
		name, ok := host.Parse(whom, true)
		if !ok {
			return api.Url{}, false
		}
		if name != "localhost" {
			u.Host = name
		}
	}
	u.Path = rooted(scheme, behind)
	return u, true
}
