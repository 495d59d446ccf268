package answer

import (
	"slices"
)

// Writer writes numbers and strings, one behind the other. Its zero value is one.
type Writer struct {
	bytes []byte
}

// number writes the lowest bytes of n, the highest one of these first.
func (w *Writer) number(n uint64, size int) {
	if w == nil {
		return
	}
	for shift := 8 * (size - 1); shift >= 0; shift -= 8 {
		w.bytes = append(w.bytes, byte(n>>shift))
	}
}

// U8 writes one byte.
func (w *Writer) U8(n uint8) {
	w.number(uint64(n), 1)
}

// U32 writes four bytes.
func (w *Writer) U32(n uint32) {
	w.number(uint64(n), 4)
}

// I64 writes eight bytes.
func (w *Writer) I64(n int64) {
	w.number(uint64(n), 8)
}

// String writes how many bytes s has, and these.
func (w *Writer) String(s string) {
	if w == nil {
		return
	}
	w.U32(uint32(len(s)))
	w.bytes = append(w.bytes, s...)
}

// Bytes answers all that was written.
func (w *Writer) Bytes() []byte {
	if w == nil {
		return nil
	}
	return slices.Clone(w.bytes)
}

// Reader reads numbers and strings, one behind the other.
type Reader struct {
	left []byte
	bad  bool
}

// NewReader answers a reader of b.
func NewReader(b []byte) *Reader {
	return &Reader{left: slices.Clone(b)}
}

// take answers the next bytes, none if they aren't all there: then r is bad.
func (r *Reader) take(size uint64) []byte {
	if r == nil {
		return nil
	}
	if size > uint64(len(r.left)) {
		r.left, r.bad = nil, true
		return nil
	}
	b := r.left[:size]
	r.left = r.left[size:]
	return b
}

// number answers the next number of so many bytes.
func (r *Reader) number(size uint64) uint64 {
	n := uint64(0)
	for _, c := range r.take(size) {
		n = n<<8 | uint64(c)
	}
	return n
}

// U8 reads one byte.
func (r *Reader) U8() uint8 {
	return uint8(r.number(1))
}

// U32 reads four bytes.
func (r *Reader) U32() uint32 {
	return uint32(r.number(4))
}

// I64 reads eight bytes.
func (r *Reader) I64() int64 {
	return int64(r.number(8))
}

// String reads how many bytes there are, and these.
func (r *Reader) String() string {
	return string(r.take(uint64(r.U32())))
}

// Left answers how many bytes aren't read.
func (r *Reader) Left() int {
	if r == nil {
		return 0
	}
	return len(r.left)
}

// Bad tells whether something wasn't there as a whole.
func (r *Reader) Bad() bool {
	return r != nil && r.bad
}
