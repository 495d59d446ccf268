package mail_test

import (
	"testing"

	"carryall/api"
	"carryall/mail"
)

func made(t *testing.T, room int) *mail.Mail[int] {
	t.Helper()
	m, e := mail.New[int](room)
	if e != api.OK || m == nil || m.Len() != 0 {
		t.Fatalf("New(%d): %v", room, e)
	}
	return m
}

func checkTake(t *testing.T, m *mail.Mail[int], want int, urgent, there bool) {
	t.Helper()
	if x, u, ok := m.Take(); x != want || u != urgent || ok != there {
		t.Errorf("Take: %d %v %v, want %d", x, u, ok, want)
	}
}

func checkPut(t *testing.T, m *mail.Mail[int], x int, urgent, want bool) {
	t.Helper()
	if got := m.Put(x, urgent); got != want {
		t.Errorf("Put(%d, %v): %v", x, urgent, got)
	}
}

func checkLen(t *testing.T, m *mail.Mail[int], want int) {
	t.Helper()
	if got := m.Len(); got != want {
		t.Errorf("Len: %d, want %d", got, want)
	}
}

// P23.1: New, and the room of each box.
func TestNew(t *testing.T) {
	for _, room := range []int{0, -1, api.MaxBlobs + 1, 1 << 40, -1 << 63} {
		if m, e := mail.New[int](room); e != api.ErrArg || m != nil {
			t.Errorf("New(%d): %v", room, e)
		}
	}
	for _, room := range []int{1, 2, api.MaxBlobs} {
		m := made(t, room)
		checkTake(t, m, 0, false, false)
		for k := range room {
			checkPut(t, m, k, true, true)
			checkLen(t, m, k+1)
		}
		checkPut(t, m, 99, true, false)
		checkLen(t, m, room)
		for k := range room {
			checkPut(t, m, 100+k, false, true)
		}
		checkPut(t, m, 99, false, false)
		checkPut(t, m, 99, true, false)
		checkLen(t, m, 2*room)
		for k := range room {
			checkTake(t, m, k, true, true)
		}
		for k := range room {
			checkTake(t, m, 100+k, false, true)
		}
		checkTake(t, m, 0, false, false)
		checkLen(t, m, 0)
	}
}

// P23.1: the urgent box first, always; what came first comes first.
func TestOrder(t *testing.T) {
	m := made(t, 3)
	checkPut(t, m, 1, false, true)
	checkPut(t, m, 2, true, true)
	checkTake(t, m, 2, true, true)
	checkLen(t, m, 1)
	checkPut(t, m, 3, false, true)
	checkPut(t, m, 4, true, true)
	checkPut(t, m, 5, true, true)
	checkTake(t, m, 4, true, true)
	checkPut(t, m, 6, true, true)
	checkTake(t, m, 5, true, true)
	checkTake(t, m, 6, true, true)
	checkTake(t, m, 1, false, true)
	checkPut(t, m, 7, true, true)
	checkTake(t, m, 7, true, true)
	checkTake(t, m, 3, false, true)
	checkTake(t, m, 0, false, false)
	checkTake(t, m, 0, false, false)
	for round := range 200 {
		checkPut(t, m, round, false, true)
		checkPut(t, m, -round, true, true)
		checkTake(t, m, -round, true, true)
		checkTake(t, m, round, false, true)
	}
	checkPut(t, m, 0, true, true)
	checkTake(t, m, 0, true, true)
}

// P23.1: nil Mail; R1: mail that is made by hand.
func TestNil(t *testing.T) {
	var m *mail.Mail[int]
	checkPut(t, m, 1, true, false)
	checkPut(t, m, 1, false, false)
	checkTake(t, m, 0, false, false)
	checkLen(t, m, 0)
	zero := &mail.Mail[int]{}
	zero.Put(1, true)
	zero.Put(1, false)
	zero.Take()
	zero.Len()
}

// R3: things are kept as they are handed in.
func TestMemory(t *testing.T) {
	m, _ := mail.New[[]byte](1)
	thing := []byte("a")
	m.Put(thing, false)
	thing[0] = 'x'
	if got, _, ok := m.Take(); !ok || &got[0] != &thing[0] {
		t.Error("not kept as it is")
	}
	texts, _ := mail.New[error](1)
	if !texts.Put(nil, true) {
		t.Error("Put of nil")
	}
	if got, urgent, ok := texts.Take(); got != nil || !urgent || !ok {
		t.Error("Take of nil")
	}
}
