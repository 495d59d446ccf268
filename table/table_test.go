package table_test

import (
	"slices"
	"testing"

	"carryall/api"
	"carryall/table"
)

func made[T any](t *testing.T, room int) *table.Table[T] {
	t.Helper()
	l, e := table.New[T](room)
	if e != api.OK || l == nil || l.Len() != 0 || len(l.Handles()) != 0 {
		t.Fatalf("New(%d): %v", room, e)
	}
	return l
}

// P22.1: New.
func TestNew(t *testing.T) {
	for _, room := range []int{0, -1, api.MaxBlobs + 1, 1 << 40, -1 << 63} {
		if l, e := table.New[int](room); e != api.ErrArg || l != nil {
			t.Errorf("New(%d): %v", room, e)
		}
	}
	for _, room := range []int{1, 2, api.MaxBlobs} {
		l := made[int](t, room)
		for k := range room {
			if h, e := l.Put(k); e != api.OK || h != int64(k+1) {
				t.Errorf("Put %d: %d %v", k, h, e)
			}
		}
		for range 2 {
			if h, e := l.Put(0); e != api.ErrFull || h != 0 || l.Len() != room {
				t.Errorf("room %d: %d %v", room, h, e)
			}
		}
	}
}

func checkGet(t *testing.T, l *table.Table[string], h int64, want string, there bool) {
	t.Helper()
	if got, ok := l.Get(h); got != want || ok != there {
		t.Errorf("Get(%d): %q %v", h, got, ok)
	}
}

func checkDel(t *testing.T, l *table.Table[string], h int64, want string, there bool) {
	t.Helper()
	if got, ok := l.Del(h); got != want || ok != there {
		t.Errorf("Del(%d): %q %v", h, got, ok)
	}
	checkGet(t, l, h, "", false)
}

func checkHandles(t *testing.T, l *table.Table[string], want ...int64) {
	t.Helper()
	if got := l.Handles(); !slices.Equal(got, want) || l.Len() != len(want) {
		t.Errorf("Handles: %v, Len %d, want %v", got, l.Len(), want)
	}
}

func checkPut(t *testing.T, l *table.Table[string], x string, want int64) {
	t.Helper()
	if h, e := l.Put(x); e != api.OK || h != want {
		t.Errorf("Put(%q): %d %v", x, h, e)
	}
}

// P22.1: the chapter's example.
func TestExample(t *testing.T) {
	l := made[string](t, 1)
	checkPut(t, l, "a", 1)
	checkDel(t, l, 1, "a", true)
	checkPut(t, l, "b", 2)
	checkGet(t, l, 1, "", false)
}

// P22.1: handles are told once, rise, and what is refused takes none.
func TestHandles(t *testing.T) {
	l := made[string](t, 3)
	checkPut(t, l, "a", 1)
	checkPut(t, l, "b", 2)
	checkPut(t, l, "c", 3)
	if _, e := l.Put("d"); e != api.ErrFull {
		t.Errorf("full: %v", e)
	}
	for _, h := range []int64{0, -1, 4, 1 << 62, -1 << 63} {
		checkGet(t, l, h, "", false)
		checkDel(t, l, h, "", false)
	}
	checkHandles(t, l, 1, 2, 3)
	checkGet(t, l, 1, "a", true)
	checkGet(t, l, 2, "b", true)
	checkGet(t, l, 3, "c", true)
	checkDel(t, l, 2, "b", true)
	checkDel(t, l, 2, "", false)
	checkHandles(t, l, 1, 3)
	checkPut(t, l, "d", 4)
	checkHandles(t, l, 1, 3, 4)
	checkDel(t, l, 4, "d", true)
	checkDel(t, l, 1, "a", true)
	checkPut(t, l, "e", 5)
	checkPut(t, l, "", 6)
	checkHandles(t, l, 3, 5, 6)
	checkGet(t, l, 6, "", true)
	checkDel(t, l, 3, "c", true)
	checkDel(t, l, 5, "e", true)
	checkDel(t, l, 6, "", true)
	checkHandles(t, l)
	checkPut(t, l, "f", 7)
	checkHandles(t, l, 7)
}

// P22.1: a nil Table; R1: one that is made by hand.
func TestNil(t *testing.T) {
	var l *table.Table[string]
	if h, e := l.Put("a"); e != api.ErrArg || h != 0 {
		t.Errorf("Put: %d %v", h, e)
	}
	checkGet(t, l, 1, "", false)
	checkDel(t, l, 1, "", false)
	checkHandles(t, l)
	var zero table.Table[string]
	zero.Put("a")
	zero.Get(1)
	zero.Del(1)
	zero.Handles()
}

// R3: things are kept as they are handed in; what is told of them is new.
func TestMemory(t *testing.T) {
	l := made[[]byte](t, 2)
	thing := []byte("a")
	l.Put(thing)
	l.Put([]byte("b"))
	thing[0] = 'x'
	if got, ok := l.Get(1); !ok || &got[0] != &thing[0] {
		t.Error("not kept as it is")
	}
	l.Handles()[0] = 9
	if !slices.Equal(l.Handles(), []int64{1, 2}) {
		t.Error("handles are shared")
	}
	if got, ok := l.Del(1); !ok || &got[0] != &thing[0] {
		t.Error("Del")
	}
	if got, ok := l.Get(1); ok || got != nil {
		t.Error("Get of what went")
	}
}

// A table of one kind of things knows nothing of another one's.
func TestWhateverThings(t *testing.T) {
	numbers, errors := made[int](t, 1), made[error](t, 1)
	numbers.Put(5)
	errors.Put(nil)
	if n, ok := numbers.Get(1); n != 5 || !ok {
		t.Error("numbers")
	}
	if e, ok := errors.Get(1); e != nil || !ok {
		t.Error("errors")
	}
}
