package worker

import (
	"math"
	"slices"
	"testing"

	"flywheel/api"
	"flywheel/ground"
	"flywheel/policy"
	"flywheel/rwlock"
	"flywheel/trace"
)

var two = api.Config{Stripes: 2, Samples: 3, Loads: 3, History: 3}

const line = 3

func made(t *testing.T) *ground.World {
	w, err := ground.New(two)
	if err != api.OK {
		t.Fatal(err)
	}
	return w
}

// stir lets the world have a sample of the id, and a policy, if ruled, and its key in the line.
func stir(w *ground.World, id string, ruled bool) api.Key {
	w.Do(api.Call{Kind: api.Ingest, Id: id, Tick: 1, Value: 250})
	if ruled {
		w.Do(api.Call{Kind: api.Set, Id: id, Policy: policy.Usual()})
	}
	w.Add(ground.Key(id))
	return ground.Key(id)
}

func all(x *Worker) int {
	n := 0
	for x.Ready() {
		x.Step()
		n++
	}
	return n
}

func TestP33_1NewAndNil(t *testing.T) {
	w := made(t)
	for _, task := range []int{-1, 32, math.MinInt64, math.MaxInt64} {
		if New(w, task) != nil {
			t.Error(task)
		}
	}
	if New(nil, 0) != nil || New(&ground.World{}, 0) != nil {
		t.Error("no world")
	}
	var zero Worker
	for _, x := range []*Worker{nil, &zero} {
		x.Step()
		if k, busy := x.Key(); x.Over() != (x == nil) || x.Ready() || x.Done() != 0 || k != (api.Key{}) || busy {
			t.Error("there is nothing to do")
		}
	}
	x := New(w, 31)
	if k, busy := x.Key(); x.Over() || !x.Ready() || x.Done() != 0 || k != (api.Key{}) || busy {
		t.Error("a new worker")
	}
}

func TestP33_3AllSteps(t *testing.T) {
	w := made(t)
	k := stir(w, "a", true)
	home := w.Store().Home(k)
	x := New(w, 5)
	advice := api.Advice{Tick: 1, Load: 250, Want: 3, Replicas: 3, Why: api.Up}
	event := func(kind int) trace.Event { return trace.Event{Kind: kind, Task: 5, Key: k} }
	noted := event(trace.Noted)
	noted.Advice = advice
	steps := []struct {
		line, home int
		events     []trace.Event
		busy       bool
	}{
		{rwlock.Write, 0, nil, false}, {rwlock.Write, 0, []trace.Event{event(trace.Took)}, true}, {0, 0, nil, true},
		{0, rwlock.Read, nil, true}, {0, rwlock.Read, []trace.Event{event(trace.Saw)}, true}, {0, 0, nil, true}, {0, 0, nil, true},
		{0, rwlock.Write, nil, true}, {0, rwlock.Write, []trace.Event{noted}, true}, {0, 0, nil, true},
		{rwlock.Write, 0, nil, true}, {rwlock.Write, 0, []trace.Event{event(trace.Gave)}, false}, {0, 0, nil, false},
	}
	for i, want := range steps {
		before := len(w.Events())
		x.Step()
		got, busy := x.Key()
		if w.Held(line, 5) != want.line || w.Held(home, 5) != want.home || !slices.Equal(w.Events()[before:], want.events) || busy != want.busy || busy && got != k || !busy && got != (api.Key{}) {
			t.Errorf("step %d: %d, %d, %v, %v", i+1, w.Held(line, 5), w.Held(home, 5), w.Events()[before:], busy)
		}
		if done := x.Done(); (done == 1) != (i >= 11) || done > 1 || x.Over() || !x.Ready() {
			t.Errorf("step %d: %d done", i+1, done)
		}
	}
	if past := w.Store().Stripe(home).Get(k).Past(); !slices.Equal(past, []api.Advice{advice}) || len(w.Queue().Busy()) != 0 {
		t.Error(past)
	}
	if all(x) != 2 || !slices.Equal(w.Sleeping(), []int{5}) || x.Over() {
		t.Error("it begins anew, and sleeps")
	}
}

func TestP33_3WithoutADecision(t *testing.T) {
	w := made(t)
	k := stir(w, "a", false)
	x := New(w, 0)
	if n := all(x); n != 12 || x.Done() != 1 {
		t.Error(n)
	}
	ruled := ground.Key("b")
	w.Do(api.Call{Kind: api.Set, Id: "b", Policy: policy.Usual()})
	w.Add(ruled)
	w.Add(ground.Key("c"))
	all(x)
	var kinds []int
	for _, e := range w.Events() {
		kinds = append(kinds, e.Kind)
	}
	once := []int{trace.Took, trace.Saw, trace.Gave}
	if !slices.Equal(kinds, slices.Concat(once, once, once)) || x.Done() != 3 || len(w.Store().Stripe(w.Store().Home(k)).Get(k).Past()) != 0 {
		t.Error("without a policy, without samples, and without a node:", kinds)
	}
	if !trace.Right(w.Events()) {
		t.Error("the trace")
	}
}

func TestP33_3SleepsAndIsWoken(t *testing.T) {
	w := made(t)
	x, y := New(w, 1), New(w, 2)
	if all(x) != 2 || all(y) != 2 || x.Ready() || !slices.Equal(w.Sleeping(), []int{1, 2}) {
		t.Error("two steps, and they sleep")
	}
	x.Step()
	if len(w.Events()) != 0 || len(w.Holds(1)) != 0 {
		t.Error("who sleeps does nothing")
	}
	w.Ask(line, 9, true)
	k := stir(w, "a", true)
	if x.Ready() || y.Ready() || w.Waits(1) != line {
		t.Error("woken, it waits for the lock")
	}
	w.Drop(line, 9)
	if !x.Ready() || y.Ready() {
		t.Error("with the lock it is ready")
	}
	x.Step()
	if got, busy := x.Key(); got != k || !busy {
		t.Error("woken, it gets a key at once")
	}
	if n := all(x); n != 13 || x.Done() != 1 || y.Done() != 0 {
		t.Error(n)
	}
}

func TestP33_3WokenForNothing(t *testing.T) {
	w := made(t)
	x, y := New(w, 1), New(w, 2)
	all(x)
	w.Ask(line, 9, true)
	y.Step()
	w.Add(ground.Key("a"))
	w.Drop(line, 9)
	all(y)
	if !x.Ready() || all(x) != 1 || !slices.Equal(w.Sleeping(), []int{1}) {
		t.Error("who finds no key sleeps again", w.Sleeping())
	}
	if all(y); y.Done() != 1 || x.Done() != 0 || !slices.Equal(w.Sleeping(), []int{1, 2}) {
		t.Error(w.Sleeping())
	}
}

func TestP33_3Leaves(t *testing.T) {
	w := made(t)
	stir(w, "a", true)
	x, y := New(w, 1), New(w, 2)
	all(y)
	all(x)
	w.Do(api.Call{Kind: api.Shut})
	for range 9 {
		all(x)
		all(y)
	}
	if !x.Over() || !y.Over() || x.Ready() || len(w.Holds(1))+len(w.Holds(2)) != 0 || x.Done()+y.Done() != 1 {
		t.Error("all go")
	}
	z := New(w, 3)
	for i := range 3 {
		if z.Over() || !z.Ready() {
			t.Error("step", i)
		}
		z.Step()
	}
	if !z.Over() || len(w.Holds(3)) != 0 {
		t.Error("three steps: Ask, Get, Drop")
	}
}

func TestP33_3ShutWithKeysThatWait(t *testing.T) {
	w := made(t)
	stir(w, "a", true)
	stir(w, "b", true)
	w.Do(api.Call{Kind: api.Shut})
	x := New(w, 0)
	if n := all(x); n != 29 || !x.Over() || x.Done() != 2 {
		t.Error(n, x.Done())
	}
}

func TestP33_4WhatWasSeenCounts(t *testing.T) {
	w := made(t)
	k := stir(w, "a", true)
	x := New(w, 0)
	for range 6 {
		x.Step()
	}
	w.Do(api.Call{Kind: api.Ingest, Id: "a", Tick: 2, Value: 9000})
	w.Do(api.Call{Kind: api.Set, Id: "a", Policy: api.Policy{Max: 1, Target: 1, Window: 1}})
	w.Add(k)
	for range 7 {
		x.Step()
	}
	want := api.Advice{Tick: 1, Load: 250, Want: 3, Replicas: 3, Why: api.Up}
	if past := w.Store().Stripe(w.Store().Home(k)).Get(k).Past(); !slices.Equal(past, []api.Advice{want}) || !slices.Equal(w.Queue().Waiting(), []api.Key{k}) {
		t.Error(past, w.Queue().Waiting())
	}
	all(x)
	if past := w.Store().Stripe(w.Store().Home(k)).Get(k).Past(); len(past) != 2 || past[1].Tick != 2 {
		t.Error(past)
	}
}

func TestP33_2WaitsForAStripe(t *testing.T) {
	w := made(t)
	k := stir(w, "a", true)
	home := w.Store().Home(k)
	x := New(w, 0)
	w.Ask(home, 9, true)
	if all(x) != 4 || x.Ready() || w.Waits(0) != home {
		t.Error("it waits to read")
	}
	w.Drop(home, 9)
	w.Ask(home, 8, false)
	if all(x) != 4 || x.Ready() || w.Waits(0) != home {
		t.Error("it waits to write")
	}
	w.Drop(home, 8)
	if all(x) != 7 || x.Done() != 1 {
		t.Error("it goes on")
	}
}
