package span_test

import (
	"strings"
	"testing"

	"carryall/span"
)

const most = 1 << 62

func both(from, to int64) span.Range {
	return span.Range{From: from, To: to, HasFrom: true, HasTo: true}
}

func from(n int64) span.Range {
	return span.Range{From: n, HasFrom: true}
}

func last(n int64) span.Range {
	return span.Range{To: n, HasTo: true}
}

// P20.1: texts that are ranges.
func TestParse(t *testing.T) {
	for _, c := range []struct {
		s    string
		want span.Range
	}{
		{"bytes=0-0", both(0, 0)},
		{"bytes=1-2", both(1, 2)},
		{"bytes=2-2", both(2, 2)},
		{"bytes=1-", from(1)},
		{"bytes=-2", last(2)},
		{"bytes=-0", last(0)},
		{"bytes=0-", from(0)},
		{"BYTES=1-2", both(1, 2)},
		{"ByTeS=1-2", both(1, 2)},
		{"bytes = 1 - 2", both(1, 2)},
		{"bytes\t \t=\t 1 \t-\t 2", both(1, 2)},
		{"bytes= -2", last(2)},
		{"bytes=- 2", last(2)},
		{"bytes=1 -", from(1)},
		{"bytes=1- ", from(1)},
		{"bytes=1-\t", from(1)},
		{"bytes=007-0010", both(7, 10)},
		{"bytes=4611686018427387904-", from(most)},
		{"bytes=4611686018427387903-", from(most - 1)},
		{"bytes=4611686018427387905-", from(most)},
		{"bytes=-4611686018427387905", last(most)},
		{"bytes=9223372036854775808-18446744073709551617", both(most, most)},
		{"bytes=4611686018427387909-4611686018427387905", both(most, most)},
		{"bytes=0-99999999999999999999999999999999999999", both(0, most)},
		{"bytes=" + strings.Repeat("0", 1000) + "5-", from(5)},
		{"bytes=" + strings.Repeat("9", 1000) + "-", from(most)},
	} {
		if got, ok := span.Parse(c.s); !ok || got != c.want {
			t.Errorf("Parse(%q): %v %v", c.s, got, ok)
		}
	}
}

// P20.1: texts that are none.
func TestParseNone(t *testing.T) {
	for _, s := range []string{
		"", "b", "byte", "bytes", "bytes=", "bytes=-", "bytes= - ", "bytes-", "bytes1-2", "bytes:1-2", "byte=1-2", "bytess=1-2", "bytesx=1-2", "bytes=x1-2", "bytes=1x-2", "bytes=1-x2", "bytes=1-2x", "octets=1-2", " bytes=1-2", "\tbytes=1-2", "by tes=1-2",
		"bytes=1", "bytes=1 2-3", "bytes=1-2 ", "bytes=1-2\t", "bytes=1-2 3", "bytes=1-2-", "bytes=1-2,3-4", "bytes=1-2,", "bytes=--2", "bytes=1--2", "bytes=+1-2", "bytes=1-+2", "bytes==1-2", "bytes=a-b", "bytes=1-b", "bytes=0x1-2", "bytes=1.0-2",
		"bytes=2-1", "bytes=1-0", "bytes=10-9", "bytes=99999999999999999999-1", "bytes\n=1-2", "bytes=\r1-2", "bytes=\n1-2", "bytes=1\n-2", "bytes=1-\n2", "bytes=1-2\n", "bytes=1-2\x00", "bytes=\xc2\xa01-2", "bytes=\u0661-2", "ﬆytes=1-2", "byteſ=1-2",
	} {
		if got, ok := span.Parse(s); ok || got != (span.Range{}) {
			t.Errorf("Parse(%q): %v %v", s, got, ok)
		}
	}
}

// P20.1: Of.
func TestOf(t *testing.T) {
	for _, c := range []struct {
		r           span.Range
		size        int64
		first, last int64
	}{
		{last(2), 5, 3, 4},
		{last(5), 5, 0, 4},
		{last(6), 5, 0, 4},
		{last(1<<63 - 1), 5, 0, 4},
		{last(1), 1, 0, 0},
		{from(0), 5, 0, 4},
		{from(4), 5, 4, 4},
		{from(0), 1, 0, 0},
		{both(0, 0), 5, 0, 0},
		{both(1, 3), 5, 1, 3},
		{both(1, 4), 5, 1, 4},
		{both(1, 5), 5, 1, 4},
		{both(4, 1<<63-1), 5, 4, 4},
		{both(0, most), 1<<63 - 1, 0, most},
		{from(most), 1<<63 - 1, most, 1<<63 - 2},
		{last(1<<63 - 1), 1<<63 - 1, 0, 1<<63 - 2},
		{span.Range{From: -1, To: 2, HasTo: true}, 5, 3, 4},
		{span.Range{From: 1, To: -2, HasFrom: true}, 5, 1, 4},
		{span.Range{From: 9, To: 2, HasTo: true}, 5, 3, 4},
		{span.Range{From: 1, To: 2, HasFrom: true}, 5, 1, 4},
	} {
		if first, last, ok := c.r.Of(c.size); !ok || first != c.first || last != c.last {
			t.Errorf("%v of %d: %d %d %v", c.r, c.size, first, last, ok)
		}
	}
	for _, c := range []struct {
		r    span.Range
		size int64
	}{
		{from(5), 5}, {from(6), 5}, {both(5, 6), 5}, {both(5, 5), 5}, {from(most), 5}, {last(0), 5}, {both(3, 1), 5},
		{from(0), 0}, {last(1), 0}, {both(0, 0), 0}, {from(0), -1}, {last(1), -1}, {last(1), -1 << 63}, {span.Range{}, 5}, {span.Range{From: 1, To: 2}, 5}, {span.Range{}, 0},
		{from(-1), 5}, {both(-1, 2), 5}, {last(-1), 5}, {both(0, -1), 5}, {both(-2, -1), 5}, {last(-1 << 63), 5}, {from(-1 << 63), 1<<63 - 1},
	} {
		if first, last, ok := c.r.Of(c.size); ok || first != 0 || last != 0 {
			t.Errorf("%v of %d: %d %d %v", c.r, c.size, first, last, ok)
		}
	}
}

// P20.1: Print, and back, of ranges that are parsed.
func TestPrint(t *testing.T) {
	for _, c := range []struct {
		r    span.Range
		want string
	}{
		{both(1, 2), "bytes=1-2"},
		{from(1), "bytes=1-"},
		{last(2), "bytes=-2"},
		{both(0, 0), "bytes=0-0"},
		{from(most), "bytes=4611686018427387904-"},
		{span.Range{}, "bytes=-"},
		{span.Range{From: 5, To: 6}, "bytes=-"},
		{span.Range{From: 5, To: 6, HasFrom: true}, "bytes=5-"},
		{span.Range{From: 5, To: 6, HasTo: true}, "bytes=-6"},
		{both(-1, -2), "bytes=-1--2"},
	} {
		if got := span.Print(c.r); got != c.want {
			t.Errorf("Print(%v): %q", c.r, got)
		}
	}
	for _, s := range []string{"bytes=0-0", "bytes=5-", "bytes=-7", "bytes=3-4611686018427387904"} {
		if r, ok := span.Parse(s); !ok || span.Print(r) != s {
			t.Errorf("%q: %q", s, span.Print(r))
		}
	}
}
