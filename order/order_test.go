package order

import (
	"math"
	"math/rand"
	"slices"
	"testing"

	"flywheel/api"
	"flywheel/engine"
	"flywheel/flat"
	"flywheel/ground"
	"flywheel/policy"
	"flywheel/trace"
)

var two = api.Config{Stripes: 2, Samples: 3, Loads: 3, History: 3}

func ingest(id string) api.Call {
	return api.Call{Kind: api.Ingest, Id: id, Tick: 1, Value: 5}
}

func point(c api.Call, r api.Reply) trace.Event {
	return trace.Event{Kind: trace.Point, Call: c, Reply: r}
}

func noted(id string, a api.Advice) trace.Event {
	return trace.Event{Kind: trace.Noted, Key: ground.Key(id), Advice: a}
}

func TestP35_1Apply(t *testing.T) {
	m := flat.New(two)
	for i, c := range []struct {
		e    trace.Event
		want bool
	}{
		{point(ingest("a"), api.Reply{}), true}, {point(ingest("a"), api.Reply{Epoch: 1}), false}, {point(ingest("A"), api.Reply{Err: api.ErrId}), true},
		{noted("a", api.Advice{Tick: 7}), true}, {noted("b", api.Advice{}), false}, {trace.Event{Kind: trace.Noted}, false}, {trace.Event{Kind: trace.Noted, Key: api.Key{Lo: 5}}, false},
		{point(api.Call{Kind: api.Read, Id: "a"}, api.Reply{Advice: api.Advice{Tick: 7}}), true}, {point(api.Call{Kind: api.Snap}, api.Reply{Epoch: 1, Handle: 1}), true},
		{trace.Event{Kind: trace.Called, Call: ingest("b")}, true}, {trace.Event{Kind: trace.Returned, Reply: api.Reply{Epoch: 9}}, true}, {trace.Event{}, true}, {trace.Event{Kind: trace.Saw, Key: ground.Key("zz")}, true}, {trace.Event{Kind: 99}, true},
	} {
		if Apply(m, c.e) != c.want {
			t.Errorf("%d: %+v", i, c.e)
		}
	}
	if !slices.Equal(m.Ids(), []string{"a"}) {
		t.Error(m.Ids())
	}
	if Apply(nil, point(ingest("a"), api.Reply{})) || !Apply(nil, point(ingest("a"), api.Reply{Err: api.ErrNone})) || Apply(nil, noted("a", api.Advice{})) || !Apply(nil, trace.Event{}) {
		t.Error("no map")
	}
}

func TestP35_1Replay(t *testing.T) {
	l := []trace.Event{point(ingest("a"), api.Reply{}), {Kind: trace.Called}, noted("a", api.Advice{}), point(api.Call{Kind: api.Snap}, api.Reply{Epoch: 2, Handle: 1}), noted("b", api.Advice{})}
	if Replay(two, l) != 3 || Replay(two, l[:3]) != -1 || Replay(two, nil) != -1 || Replay(two, l[3:]) != 0 || Replay(api.Config{}, l) != 0 || Replay(api.Config{}, nil) != -1 {
		t.Error("the first that is no")
	}
}

func TestP35_2Told(t *testing.T) {
	p := func(task, nth int, epoch int64) trace.Event {
		return trace.Event{Kind: trace.Point, Task: task, Nth: nth, Reply: api.Reply{Epoch: epoch}}
	}
	r := func(task, nth int, epoch int64) trace.Event {
		return trace.Event{Kind: trace.Returned, Task: task, Nth: nth, Reply: api.Reply{Epoch: epoch}}
	}
	for i, c := range []struct {
		l    []trace.Event
		want bool
	}{
		{nil, true}, {[]trace.Event{p(0, 0, 5)}, true}, {[]trace.Event{p(0, 0, 5), r(0, 0, 5)}, true}, {[]trace.Event{r(0, 0, 0)}, false}, {[]trace.Event{r(0, 0, 5), p(0, 0, 5)}, false},
		{[]trace.Event{p(0, 0, 5), r(0, 0, 6)}, false}, {[]trace.Event{p(0, 0, 5), r(0, 1, 5)}, false}, {[]trace.Event{p(0, 0, 5), r(1, 0, 5)}, false},
		{[]trace.Event{p(0, 0, 5), p(0, 0, 6), r(0, 0, 6)}, true}, {[]trace.Event{p(0, 0, 5), p(0, 0, 6), r(0, 0, 5)}, false}, {[]trace.Event{p(0, 0, 5), p(1, 0, 6), r(0, 0, 5), r(1, 0, 6)}, true},
		{[]trace.Event{{Kind: trace.Called, Reply: api.Reply{Epoch: 5}}, r(0, 0, 5)}, false},
	} {
		if Told(c.l) != c.want {
			t.Error(i)
		}
	}
}

func TestP35_2Linear(t *testing.T) {
	if !Linear(two, nil) || !Linear(api.Config{}, nil) {
		t.Error("no events")
	}
	c := ingest("a")
	l := []trace.Event{{Kind: trace.Called, Call: c}, point(c, api.Reply{}), {Kind: trace.Returned}}
	if !Linear(two, l) || !Linear(two, l[:2]) || Linear(two, l[1:]) || Linear(api.Config{}, l) {
		t.Error("one call")
	}
	l[2].Reply.Epoch = 1
	if Linear(two, l) {
		t.Error("another reply is told")
	}
}

func TestP35_3EpochsAndAfter(t *testing.T) {
	snap := api.Call{Kind: api.Snap}
	l := []trace.Event{point(snap, api.Reply{Epoch: 4}), point(snap, api.Reply{Err: api.ErrFull, Epoch: 9}), point(ingest("a"), api.Reply{Epoch: 7}), {Kind: trace.Returned, Call: snap, Reply: api.Reply{Epoch: 8}}, point(snap, api.Reply{Epoch: 2})}
	if !slices.Equal(Epochs(l), []int64{4, 2}) || len(Epochs(nil)) != 0 {
		t.Error(Epochs(l))
	}
	for n, want := range map[int]int{-1: 0, 0: 0, 2: 0, 3: 1, 5: 1, 99: 1, math.MinInt64: 0, math.MaxInt64: 1} {
		if m := After(two, l, n); m == nil || len(m.Ids()) != want {
			t.Errorf("after %d", n)
		}
	}
	first := []trace.Event{point(ingest("a"), api.Reply{}), point(ingest("b"), api.Reply{})}
	if len(After(two, first, 0).Ids()) != 0 || len(After(two, first, -9).Ids()) != 0 || len(After(two, first, 1).Ids()) != 1 {
		t.Error("none, if n is below 1")
	}
	if After(api.Config{}, l, 3) != nil {
		t.Error("no map of that config")
	}
}

func TestP35_4WhatAnEngineDoesIsLinear(t *testing.T) {
	programs := [][]api.Call{
		{{Kind: api.Set, Id: "a", Policy: policy.Usual()}, ingest("a"), {Kind: api.Snap}, {Kind: api.Read, Id: "a"}, {Kind: api.Snap}},
		{ingest("b"), {Kind: api.Snap}, {Kind: api.Look, Handle: 1, Id: "a", Tick: 9, Value: 9}, {Kind: api.Free, Handle: 1}, {Kind: api.Trim, Tick: 2}, {Kind: api.Shut}},
	}
	for seed := range int64(100) {
		r := rand.New(rand.NewSource(seed))
		picks := make([]int, 300)
		for i := range picks {
			picks[i] = r.Intn(4)
		}
		o, _ := engine.Run(two, programs, 2, picks)
		if !Linear(two, o.Events) || !slices.IsSorted(Epochs(o.Events)) {
			t.Fatal("seed", seed)
		}
	}
}
