package ground

import (
	"math"
	"slices"
	"testing"

	"flywheel/api"
	"flywheel/ident"
	"flywheel/rwlock"
	"flywheel/trace"
)

var two = api.Config{Stripes: 2, Samples: 2, Loads: 2, History: 2}

func made(t *testing.T) *World {
	w, err := New(two)
	if w == nil || err != api.OK {
		t.Fatal(err)
	}
	return w
}

func asleep(t *testing.T, tasks ...int) *World {
	w := made(t)
	for _, task := range tasks {
		w.Ask(3, task, true)
		if w.Sleep(task) != api.OK {
			t.Fatal(task)
		}
	}
	return w
}

func TestP31_1New(t *testing.T) {
	w := made(t)
	if w.Config() != two || w.Store().Count() != 2 || w.Store() != w.Store() || w.Queue() == nil || w.Queue() != w.Queue() || len(w.Queue().Waiting()) != 0 || w.Count() != 4 || len(w.Events()) != 0 {
		t.Error("a new world")
	}
	if w, err := New(api.Config{Stripes: 3}); w != nil || err != api.ErrArg {
		t.Error(w, err)
	}
}

func TestP31_1NilAndUnmade(t *testing.T) {
	var zero World
	for _, w := range []*World{nil, &zero} {
		if w.Config() != (api.Config{}) || w.Store() != nil || w.Queue() != nil || w.Count() != 0 {
			t.Error("something is there")
		}
		if given, err := w.Ask(0, 0, true); given || err != api.ErrArg {
			t.Error(given, err)
		}
		if w.Drop(0, 0) != api.ErrNone || w.Held(0, 0) != 0 || len(w.Holds(0)) != 0 || w.Waits(0) != -1 || w.Sleep(0) != api.ErrNone || len(w.Sleeping()) != 0 {
			t.Error("locks")
		}
		w.Note(trace.Event{Kind: 1})
		if w.Add(Key("a")) || w.Give(Key("a")) || w.Shut() != api.ErrNone || len(w.Events()) != 0 {
			t.Error("something is kept")
		}
		for c, err := range map[api.Call]api.Errno{{}: api.ErrKind, {Kind: api.Shut}: api.ErrNone, {Kind: api.Snap}: api.ErrNone, {Kind: api.Read}: api.ErrId} {
			if r := w.Do(c); r != (api.Reply{Err: err}) {
				t.Errorf("%+v: %+v", c, r)
			}
		}
	}
}

func TestP31_2AndP31_6Locks(t *testing.T) {
	w := made(t)
	for n := range 4 {
		if given, err := w.Ask(n, 1, true); !given || err != api.OK || w.Held(n, 1) != rwlock.Write {
			t.Error(n, given, err)
		}
	}
	if !slices.Equal(w.Holds(1), []int{0, 1, 2, 3}) || len(w.Holds(2)) != 0 {
		t.Error(w.Holds(1))
	}
	if given, err := w.Ask(2, 2, true); given || err != api.OK || w.Waits(2) != 2 || w.Held(2, 2) != rwlock.None {
		t.Error(given, err)
	}
	w.Ask(1, 2, false)
	w.Ask(3, 5, false)
	if w.Waits(2) != 1 || w.Waits(5) != 3 || w.Waits(1) != -1 || w.Waits(-1) != -1 || w.Waits(77) != -1 {
		t.Error("the first lock for which it waits")
	}
	if w.Drop(1, 1) != api.OK || w.Held(1, 2) != rwlock.Read || w.Waits(2) != 2 || w.Drop(1, 1) != api.ErrNone || !slices.Equal(w.Holds(1), []int{0, 2, 3}) {
		t.Error("Drop")
	}
	if given, err := w.Ask(0, 1, true); given || err != api.ErrOrder {
		t.Error(given, err)
	}
	for _, n := range []int{-1, 4, math.MaxInt64, math.MinInt64} {
		if given, err := w.Ask(n, 7, true); given || err != api.ErrArg || w.Drop(n, 7) != api.ErrNone || w.Held(n, 1) != rwlock.None {
			t.Error(n, given, err)
		}
	}
}

func TestP31_3SleepAddGive(t *testing.T) {
	w := asleep(t, 4, 5)
	a, b := Key("a"), Key("b")
	if !slices.Equal(w.Sleeping(), []int{4, 5}) || len(w.Holds(4)) != 0 || w.Sleep(4) != api.ErrNone {
		t.Error(w.Sleeping())
	}
	if !w.Add(a) || !slices.Equal(w.Sleeping(), []int{5}) || w.Held(3, 4) != rwlock.Write {
		t.Error("Add wakes one")
	}
	if w.Add(a) || !slices.Equal(w.Sleeping(), []int{5}) {
		t.Error("Add of what waits wakes nobody")
	}
	w.Queue().Get()
	if w.Add(a) || !slices.Equal(w.Sleeping(), []int{5}) {
		t.Error("Add of what is busy wakes nobody")
	}
	if !w.Give(a) || len(w.Sleeping()) != 0 || w.Waits(5) != 3 {
		t.Error("Give of what waits again wakes one")
	}
	if w.Give(b) || !slices.Equal(w.Queue().Waiting(), []api.Key{a}) {
		t.Error("Give of what nobody works at")
	}
	v := asleep(t, 4)
	v.Queue().Add(a)
	v.Queue().Get()
	if v.Give(a) || !slices.Equal(v.Sleeping(), []int{4}) {
		t.Error("Give of what does not wait again wakes nobody")
	}
}

func TestP31_3Shut(t *testing.T) {
	w := asleep(t, 4, 5)
	if w.Shut() != api.OK || len(w.Sleeping()) != 0 || w.Held(3, 4) != rwlock.Write || w.Waits(5) != 3 || !w.Queue().Over() || w.Add(Key("a")) {
		t.Error("Shut")
	}
	if w.Shut() != api.ErrShut || w.Do(api.Call{Kind: api.Shut}) != (api.Reply{Err: api.ErrShut}) {
		t.Error("twice")
	}
}

func TestP31_4Events(t *testing.T) {
	w := made(t)
	for i := range 3 {
		w.Note(trace.Event{Kind: 1, Nth: i})
	}
	w.Events()[0].Nth = 77
	for i, e := range w.Events() {
		if e != (trace.Event{Kind: 1, Nth: i}) {
			t.Error(e)
		}
	}
	if len(w.Events()) != 3 {
		t.Error(len(w.Events()))
	}
}

func TestP31_5DoAndKey(t *testing.T) {
	w := asleep(t, 1)
	if r := w.Do(api.Call{Kind: api.Ingest, Id: "a", Tick: 1, Value: 5}); r != (api.Reply{}) || w.Store().Stripe(w.Store().Home(Key("a"))).Len() != 1 || len(w.Queue().Waiting()) != 0 {
		t.Error(r)
	}
	if r := w.Do(api.Call{Kind: api.Snap}); r != (api.Reply{Epoch: 1, Handle: 1}) || len(w.Events()) != 0 {
		t.Error(r)
	}
	if r := w.Do(api.Call{Kind: api.Shut}); r != (api.Reply{}) || !w.Queue().Over() || len(w.Sleeping()) != 0 {
		t.Error(r)
	}
	k, _ := ident.Pack("web")
	if Key("web") != k || Key("") != (api.Key{}) || Key("A") != (api.Key{}) {
		t.Error("Key")
	}
}
