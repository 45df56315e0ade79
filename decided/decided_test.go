package decided

import (
	"math/rand"
	"slices"
	"testing"

	"flywheel/api"
	"flywheel/engine"
	"flywheel/ground"
	"flywheel/policy"
	"flywheel/trace"
)

var two = api.Config{Stripes: 2, Samples: 3, Loads: 3, History: 3}
var advice = api.Advice{Tick: 1, Load: 250, Want: 3, Replicas: 3, Why: api.Up}

func point(c api.Call) trace.Event {
	return trace.Event{Kind: trace.Point, Task: 9, Call: c}
}

func ingest(id string, tick, value int64) api.Call {
	return api.Call{Kind: api.Ingest, Id: id, Tick: tick, Value: value}
}

func set(id string) api.Call {
	return api.Call{Kind: api.Set, Id: id, Policy: policy.Usual()}
}

func work(kind, task int, id string) trace.Event {
	return trace.Event{Kind: kind, Task: task, Key: ground.Key(id)}
}

func noted(task int, id string, a api.Advice) trace.Event {
	return trace.Event{Kind: trace.Noted, Task: task, Key: ground.Key(id), Advice: a}
}

func TestP37_1Apart(t *testing.T) {
	took, gave := func(id string) trace.Event { return work(trace.Took, 0, id) }, func(id string) trace.Event { return work(trace.Gave, 0, id) }
	for i, c := range []struct {
		l    []trace.Event
		want bool
	}{
		{nil, true}, {[]trace.Event{took("a"), took("b"), gave("a"), took("a")}, true}, {[]trace.Event{took("a"), work(trace.Took, 1, "a")}, false}, {[]trace.Event{took("a"), gave("b"), took("a")}, false}, {[]trace.Event{gave("a"), took("a")}, true},
		{[]trace.Event{took("a"), work(trace.Saw, 0, "a"), noted(0, "a", advice), gave("a"), gave("a"), took("a")}, true}, {[]trace.Event{took("a"), work(trace.Saw, 1, "a"), took("a")}, false},
	} {
		if Apart(c.l) != c.want {
			t.Error(i)
		}
	}
}

func ready() []trace.Event {
	return []trace.Event{point(ingest("a", 1, 250)), point(set("a")), work(trace.Saw, 0, "a")}
}

func TestP37_2Wrong(t *testing.T) {
	other := advice
	other.Why = api.Keep
	for i, c := range []struct {
		more []trace.Event
		want int
	}{
		{nil, -1}, {[]trace.Event{noted(0, "a", advice)}, -1}, {[]trace.Event{noted(0, "a", other)}, 3}, {[]trace.Event{noted(1, "a", advice)}, 3}, {[]trace.Event{noted(1, "a", api.Advice{})}, 3},
		{[]trace.Event{point(ingest("a", 2, 9000)), noted(0, "a", advice)}, -1}, {[]trace.Event{point(ingest("a", 2, 9000)), work(trace.Saw, 0, "a"), noted(0, "a", advice)}, 5},
		{[]trace.Event{noted(0, "a", advice), noted(0, "a", advice), noted(0, "a", other)}, 5}, {[]trace.Event{work(trace.Saw, 1, "b"), noted(1, "b", api.Advice{})}, 4}, {[]trace.Event{work(trace.Saw, 1, ""), noted(1, "", api.Advice{})}, 4},
		{[]trace.Event{work(trace.Saw, 0, "b"), noted(0, "a", advice)}, 4}, {[]trace.Event{work(trace.Took, 3, "a"), work(trace.Gave, 3, "a")}, -1},
	} {
		if got := Wrong(two, append(ready(), c.more...)); got != c.want {
			t.Errorf("%d: %d", i, got)
		}
	}
	if Wrong(two, []trace.Event{noted(0, "a", advice)}) != 0 || Wrong(two, nil) != -1 || Wrong(api.Config{}, append(ready(), noted(0, "a", advice))) != 3 {
		t.Error("Wrong")
	}
}

func TestP37_2Outside(t *testing.T) {
	with := func(n int64) api.Advice { return api.Advice{Replicas: n} }
	for i, c := range []struct {
		more []trace.Event
		want int
	}{
		{nil, -1}, {[]trace.Event{noted(0, "a", with(1)), noted(0, "a", with(10))}, -1}, {[]trace.Event{noted(0, "a", with(0))}, 3}, {[]trace.Event{noted(0, "a", with(1)), noted(0, "a", with(11))}, 4}, {[]trace.Event{noted(1, "a", with(1))}, 3},
		{[]trace.Event{work(trace.Saw, 0, "b"), noted(0, "a", with(1))}, 4}, {[]trace.Event{point(api.Call{Kind: api.Set, Id: "a", Policy: api.Policy{Max: 20, Target: 1, Window: 1}}), noted(0, "a", with(15))}, 4},
		{[]trace.Event{point(api.Call{Kind: api.Set, Id: "a", Policy: api.Policy{Max: 20, Target: 1, Window: 1}}), work(trace.Saw, 0, "a"), noted(0, "a", with(15))}, -1},
	} {
		if got := Outside(two, append(ready(), c.more...)); got != c.want {
			t.Errorf("%d: %d", i, got)
		}
	}
	if Outside(two, []trace.Event{noted(0, "a", with(0))}) != 0 || Outside(two, nil) != -1 || Outside(api.Config{}, append(ready(), noted(0, "a", with(1)))) != 3 {
		t.Error("Outside")
	}
}

func TestP37_3StaleAndLast(t *testing.T) {
	refused := point(ingest("r", 1, 1))
	refused.Reply.Err = api.ErrFull
	none := trace.Event{Kind: trace.Point, Call: api.Call{Kind: api.Ingest}}
	l := []trace.Event{point(ingest("c", 1, 1)), point(set("b")), point(ingest("a", 1, 1)), work(trace.Saw, 0, "a"), refused, point(api.Call{Kind: api.Read, Id: "x"}), {Kind: trace.Called, Call: ingest("y", 1, 1)}, point(set("b")), work(trace.Took, 0, "c"), none}
	if got := Stale(l); !slices.Equal(got, []string{"", "b", "c"}) || len(Stale(nil)) != 0 {
		t.Errorf("%q", got)
	}
	if got := Stale(append(l, work(trace.Saw, 0, "b"), point(ingest("a", 2, 2)), trace.Event{Kind: trace.Saw, Key: api.Key{Lo: 1}})); !slices.Equal(got, []string{"a", "c"}) {
		t.Errorf("%q", got)
	}
	m := []trace.Event{noted(0, "a", advice), noted(1, "b", api.Advice{Tick: 2}), noted(2, "a", api.Advice{Tick: 3}), work(trace.Gave, 0, "a")}
	if a, ok := Last(m, ground.Key("a")); a != (api.Advice{Tick: 3}) || !ok {
		t.Error(a, ok)
	}
	if a, ok := Last(m[:3], ground.Key("a")); a != (api.Advice{Tick: 3}) || !ok {
		t.Error(a, ok)
	}
	if a, ok := Last(m[:2], ground.Key("a")); a != advice || !ok {
		t.Error(a, ok)
	}
	if a, ok := Last(m, ground.Key("c")); a != (api.Advice{}) || ok {
		t.Error(a, ok)
	}
}

func TestP37_4WhatAnEngineDoes(t *testing.T) {
	programs := [][]api.Call{
		{set("a"), ingest("a", 1, 250), ingest("a", 2, 100), ingest("b", 3, 3)},
		{ingest("b", 1, 777), set("b"), {Kind: api.Trim, Tick: 2}, ingest("a", 5, 9000), set("b")},
	}
	decisions := 0
	for seed := range int64(150) {
		r := rand.New(rand.NewSource(seed))
		picks := make([]int, 600)
		for i := range picks {
			picks[i] = r.Intn(5)
		}
		o, _ := engine.Run(two, programs, 1+int(seed)%3, picks)
		if !o.Rest || !Apart(o.Events) || Wrong(two, o.Events) != -1 || Outside(two, o.Events) != -1 || len(Stale(o.Events)) != 0 {
			t.Fatal("seed", seed)
		}
		decisions += len(trace.Kind(o.Events, trace.Noted))
	}
	if decisions == 0 {
		t.Error("nothing was decided")
	}
}
