package stack

import (
	"carryall/api"
	"carryall/parse"
	"carryall/posix"
	"carryall/url"
	"carryall/windows"
)

// The flavours of paths.
const (
	Posix = iota
	Windows
)

// ToUrl answers the URL of a path, written.
func ToUrl(flavour int, path string) (string, api.Errno) {
	u, e := api.Url{}, api.ErrArg
	switch flavour {
	case Posix:
		u, e = posix.Url(path)
	case Windows:
		u, e = windows.Url(path)
	}
	if e != api.OK {
		return "", e
	}
	return url.Print(u), api.OK
}

// ToPath answers the path of a URL.
func ToPath(flavour int, url string) (string, api.Errno) {
	if flavour != Posix && flavour != Windows {
		return "", api.ErrArg
	}
	u, e := parse.Parse(url, nil)
	if e != api.OK {
		return "", e
	}
	if flavour == Windows {
		return windows.Path(u)
	}
	return posix.Path(u)
}
