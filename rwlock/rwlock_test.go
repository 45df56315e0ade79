package rwlock

import (
	"math"
	"math/rand"
	"slices"
	"testing"

	"flywheel/api"
)

func (l *Lock) ask(t *testing.T, task int, write, given bool) {
	t.Helper()
	if got, err := l.Ask(task, write); got != given || err != api.OK {
		t.Errorf("%d asks: %v, %d", task, got, err)
	}
}

func (l *Lock) drop(t *testing.T, task int, to ...int) {
	t.Helper()
	if got, err := l.Drop(task); !slices.Equal(got, to) || err != api.OK {
		t.Errorf("%d drops: %v, %d", task, got, err)
	}
}

func TestP25_1ZeroAndNil(t *testing.T) {
	var l Lock
	for _, x := range []*Lock{nil, &l} {
		if x.Held(0) != None || x.Held(-1) != None || x.Held(32) != None || x.Held(math.MaxInt64) != None || !x.Free() || len(x.Waiting()) != 0 {
			t.Error("nobody holds it")
		}
		if to, err := x.Drop(3); len(to) != 0 || err != api.ErrNone {
			t.Error(to, err)
		}
	}
	if given, err := (*Lock)(nil).Ask(0, true); given || err != api.ErrArg {
		t.Error(given, err)
	}
	if None != 0 || Read != 1 || Write != 2 {
		t.Error("how it is held")
	}
}

func TestP25_2Ask(t *testing.T) {
	var l Lock
	for _, task := range []int{-1, 32, math.MinInt64, math.MaxInt64, 1 << 32} {
		for _, write := range []bool{false, true} {
			if given, err := l.Ask(task, write); given || err != api.ErrArg {
				t.Error(task, given, err)
			}
		}
	}
	l.ask(t, 0, false, true)
	l.ask(t, 31, false, true)
	if l.Held(0) != Read || l.Held(31) != Read || l.Held(1) != None || l.Free() {
		t.Error("those who read")
	}
	l.ask(t, 1, true, false)
	l.ask(t, 2, false, false)
	if !slices.Equal(l.Waiting(), []int{1, 2}) || l.Held(1) != None || l.Held(2) != None {
		t.Error(l.Waiting())
	}
	for _, task := range []int{0, 31, 1, 2} {
		for _, write := range []bool{false, true} {
			if given, err := l.Ask(task, write); given || err != api.ErrOrder {
				t.Error(task, given, err)
			}
		}
	}
	var w Lock
	w.ask(t, 5, true, true)
	w.ask(t, 6, false, false)
	w.ask(t, 7, true, false)
	if w.Held(5) != Write || w.Held(6) != None {
		t.Error("who writes")
	}
}

func TestP25_3Drop(t *testing.T) {
	var l Lock
	l.ask(t, 0, false, true)
	l.ask(t, 1, true, false)
	l.ask(t, 2, false, false)
	l.drop(t, 0, 1)
	if l.Held(0) != None || l.Held(1) != Write || l.Held(2) != None {
		t.Error("given to 1 alone")
	}
	for _, task := range []int{0, 2, 9, -1, 32} {
		if to, err := l.Drop(task); len(to) != 0 || err != api.ErrNone {
			t.Error(task, to, err)
		}
	}
	l.ask(t, 3, false, false)
	l.ask(t, 4, true, false)
	l.ask(t, 5, false, false)
	l.drop(t, 1, 2, 3)
	l.drop(t, 3)
	l.drop(t, 2, 4)
	if !slices.Equal(l.Waiting(), []int{5}) {
		t.Error(l.Waiting())
	}
	l.drop(t, 4, 5)
	l.drop(t, 5)
	if !l.Free() || len(l.Waiting()) != 0 {
		t.Error("free again")
	}
}

func TestP25_4Always(t *testing.T) {
	r := rand.New(rand.NewSource(2))
	for range 40 {
		var l Lock
		var line []int
		for range 400 {
			task := r.Intn(6)
			if r.Intn(2) == 0 {
				given, err := l.Ask(task, r.Intn(2) == 0)
				if given && len(line) > 0 {
					t.Fatal("somebody came in between")
				}
				if !given && err == api.OK {
					line = append(line, task)
				}
			} else {
				to, _ := l.Drop(task)
				if len(to) > len(line) || !slices.Equal(line[:len(to)], to) {
					t.Fatal("not in their order:", line, to)
				}
				line = line[len(to):]
			}
			if !slices.Equal(l.Waiting(), line) {
				t.Fatal(l.Waiting(), line)
			}
			readers, writers := 0, 0
			for task := range 6 {
				switch l.Held(task) {
				case Read:
					readers++
				case Write:
					writers++
				}
			}
			if writers > 1 || writers == 1 && readers > 0 || l.Free() != (readers+writers == 0) || l.Free() && len(line) > 0 {
				t.Fatal(readers, writers)
			}
		}
	}
}
