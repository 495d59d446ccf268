// Package utf is layer 1: bytes as characters, whatever they are.
package utf

import (
	"unicode/utf8"
)

// broken stands for bytes that are no character's.
const broken = 0xFFFD

// Decode answers the characters that are read of b.
func Decode(b []byte) []rune {
	var l []rune
	for k := 0; k < len(b); {
		r, size, _ := read(b[k:])
		l = append(l, r)
		k += size
	}
	return l
}

// Encode answers the bytes of all of l.
func Encode(l ...rune) []byte {
	var b []byte
	for _, r := range l {
		b = utf8.AppendRune(b, r)
	}
	return b
}

// Valid tells whether b is characters' bytes alone.
func Valid(b []byte) bool {
	for k := 0; k < len(b); {
		_, size, whole := read(b[k:])
		if !whole {
			return false
		}
		k += size
	}
	return true
}

// read answers the first character of b, which isn't empty, how many bytes it takes, and whether they are its own. The library would take a broken character's bytes one by one.
func read(b []byte) (rune, int, bool) {
	size, low, high := lead(b[0])
	if size == 0 {
		return broken, 1, false
	}
	if size == 1 {
		return rune(b[0]), 1, true
	}
	r := rune(b[0] & (0x7F >> size))
	for k := 1; k < size; k++ {
		if k == len(b) || b[k] < low || b[k] > high {
			return broken, k, false
		}
		r = r<<6 | rune(b[k]&0x3F)
		low, high = 0x80, 0xBF
	}
	return r, size, true
}

// lead answers how many bytes a character has that begins with c, and from what to what its second one goes; 0, if none does.
func lead(c byte) (size int, low, high byte) {
	switch {
	case c <= 0x7F:
		return 1, 0, 0
	case c >= 0xC2 && c <= 0xDF:
		return 2, 0x80, 0xBF
	case c == 0xE0:
		return 3, 0xA0, 0xBF
	case c == 0xED:
		return 3, 0x80, 0x9F
	case c >= 0xE1 && c <= 0xEF:
		return 3, 0x80, 0xBF
	case c == 0xF0:
		return 4, 0x90, 0xBF
	case c >= 0xF1 && c <= 0xF3:
		return 4, 0x80, 0xBF
	case c == 0xF4:
		return 4, 0x80, 0x8F
	}
	return 0, 0, 0
}

// Lower answers s with a to z for A to Z, byte by byte.
func Lower(s string) string {
	b := []byte(s)
	for k, c := range b {
		if c >= 'A' && c <= 'Z' {
			b[k] = c + ('a' - 'A')
		}
	}
	return string(b)
}

// Letter tells whether c is A to Z or a to z.
func Letter(c byte) bool {
	return c >= 'A' && c <= 'Z' || c >= 'a' && c <= 'z'
}

// Digit tells whether c is 0 to 9.
func Digit(c byte) bool {
	return c >= '0' && c <= '9'
}

// Hex answers the number of a hexadecimal digit, -1 of another byte.
func Hex(c byte) int {
	switch {
	case Digit(c):
		return int(c - '0')
	case c >= 'a' && c <= 'f':
		return int(c-'a') + 10
	case c >= 'A' && c <= 'F':
		return int(c-'A') + 10
	}
	return -1
}
