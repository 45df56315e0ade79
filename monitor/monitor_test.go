package monitor

import (
	"slices"
	"testing"

	"flywheel/api"
	"flywheel/rwlock"
)

func asleep(t *testing.T, tasks ...int) *Monitor {
	var m Monitor
	for _, task := range tasks {
		m.Ask(task, true)
		if to, err := m.Sleep(task); len(to) != 0 || err != api.OK {
			t.Fatal(to, err)
		}
	}
	return &m
}

func TestP26_1ZeroAndNil(t *testing.T) {
	var zero Monitor
	for _, m := range []*Monitor{nil, &zero} {
		if len(m.Sleeping()) != 0 || !m.Idle() || len(m.WakeAll()) != 0 {
			t.Error("nobody sleeps")
		}
		if to, err := m.Sleep(0); len(to) != 0 || err != api.ErrNone {
			t.Error(to, err)
		}
		if task, given := m.Wake(); task != -1 || given {
			t.Error(task, given)
		}
	}
}

func TestP26_1TheLocksCalls(t *testing.T) {
	var m Monitor
	if given, err := m.Ask(3, false); !given || err != api.OK || m.Held(3) != rwlock.Read || m.Free() || m.Idle() {
		t.Error(given, err)
	}
	m.Ask(4, true)
	if !slices.Equal(m.Waiting(), []int{4}) {
		t.Error(m.Waiting())
	}
	if to, err := m.Drop(3); !slices.Equal(to, []int{4}) || err != api.OK || m.Idle() {
		t.Error(to, err)
	}
	if m.Drop(4); !m.Free() || !m.Idle() {
		t.Error("idle")
	}
}

func TestP26_2Sleep(t *testing.T) {
	var m Monitor
	m.Ask(0, false)
	for _, task := range []int{0, 1, -1, 32} {
		if to, err := m.Sleep(task); len(to) != 0 || err != api.ErrNone || len(m.Sleeping()) != 0 {
			t.Error(task, to, err)
		}
	}
	if m.Held(0) != rwlock.Read {
		t.Error("what is refused changes nothing")
	}
	m.Drop(0)
	m.Ask(0, true)
	m.Ask(1, false)
	m.Ask(2, false)
	if to, err := m.Sleep(0); !slices.Equal(to, []int{1, 2}) || err != api.OK || !slices.Equal(m.Sleeping(), []int{0}) || m.Held(0) != rwlock.None {
		t.Error(to, err)
	}
	m.Sleeping()[0] = 7
	if m.Drop(1); !slices.Equal(m.Sleeping(), []int{0}) || m.Idle() {
		t.Error(m.Sleeping())
	}
	if m.Drop(2); !m.Idle() {
		t.Error("who sleeps does not wait")
	}
}

func TestP26_2SleepsTwice(t *testing.T) {
	m := asleep(t, 5, 5, 6)
	if !slices.Equal(m.Sleeping(), []int{5, 5, 6}) {
		t.Error(m.Sleeping())
	}
	if task, given := m.Wake(); task != 5 || !given || !slices.Equal(m.Sleeping(), []int{5, 6}) {
		t.Error(task, given, m.Sleeping())
	}
}

func TestP26_3AndP26_4Wake(t *testing.T) {
	m := asleep(t, 3, 1, 2)
	m.Ask(9, true)
	if task, given := m.Wake(); task != 3 || given || !slices.Equal(m.Waiting(), []int{3}) || !slices.Equal(m.Sleeping(), []int{1, 2}) {
		t.Error(task, given)
	}
	m.Ask(8, false)
	m.Wake()
	if to, _ := m.Drop(9); !slices.Equal(to, []int{3}) || m.Held(3) != rwlock.Write {
		t.Error(to)
	}
	if to, _ := m.Drop(3); !slices.Equal(to, []int{8}) {
		t.Error(to)
	}
	if to, _ := m.Drop(8); !slices.Equal(to, []int{1}) || m.Held(1) != rwlock.Write {
		t.Error("woken, it asks to write:", to)
	}
	m.Drop(1)
	if task, given := m.Wake(); task != 2 || !given || m.Held(2) != rwlock.Write {
		t.Error(task, given)
	}
	if task, given := m.Wake(); task != -1 || given {
		t.Error(task, given)
	}
}

func TestP26_3WakeOfOneThatAsked(t *testing.T) {
	for _, ahead := range [][]int{nil, {9}} {
		m := asleep(t, 4)
		for _, task := range ahead {
			m.Ask(task, true)
		}
		m.Ask(4, false)
		held, waiting := m.Held(4), m.Waiting()
		if task, given := m.Wake(); task != 4 || given || len(m.Sleeping()) != 0 || m.Held(4) != held || !slices.Equal(m.Waiting(), waiting) {
			t.Error(task, given)
		}
	}
}

func TestP26_3WakeAll(t *testing.T) {
	m := asleep(t, 3, 1, 2)
	if l := m.WakeAll(); !slices.Equal(l, []int{3, 1, 2}) || m.Held(3) != rwlock.Write || !slices.Equal(m.Waiting(), []int{1, 2}) || len(m.Sleeping()) != 0 {
		t.Error(l, m.Waiting())
	}
	if l := m.WakeAll(); len(l) != 0 {
		t.Error(l)
	}
}
