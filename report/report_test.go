package report

import (
	"math"
	"slices"
	"strings"
	"testing"

	"flywheel/api"
	"flywheel/engine"
	"flywheel/ground"
	"flywheel/policy"
	"flywheel/trace"
)

var advice = api.Advice{Tick: 1, Load: 2, Want: 3, Replicas: 4, Why: 5}

const told = "tick 1 load 2 want 3 replicas 4 why 5"

func TestP43_1Event(t *testing.T) {
	a := ground.Key("a")
	for want, e := range map[string]trace.Event{
		"3 7 call ingest a 1 5": {Kind: trace.Called, Task: 3, Nth: 7, Call: api.Call{Kind: api.Ingest, Id: "a", Tick: 1, Value: 5}}, "3 0 call ?": {Kind: trace.Called, Task: 3, Call: api.Call{Kind: api.Ingest, Id: "A"}}, "0 0 call ?": {Kind: trace.Called},
		"3 7 point ok epoch 2": {Kind: trace.Point, Task: 3, Nth: 7, Reply: api.Reply{Epoch: 2}, Call: api.Call{Kind: api.Snap}}, "3 7 return error 5": {Kind: trace.Returned, Task: 3, Nth: 7, Reply: api.Reply{Err: 5}},
		"2 took a": {Kind: trace.Took, Task: 2, Key: a}, "2 saw a": {Kind: trace.Saw, Task: 2, Key: a, Nth: 7}, "2 gave a": {Kind: trace.Gave, Task: 2, Key: a}, "2 noted a " + told: {Kind: trace.Noted, Task: 2, Key: a, Advice: advice},
		"2 took ?": {Kind: trace.Took, Task: 2}, "2 noted ? tick 0 load 0 want 0 replicas 0 why 0": {Kind: trace.Noted, Task: 2, Key: api.Key{Lo: 9}}, "-5 ?": {Task: -5, Nth: 3}, "0 ?": {Kind: 8, Key: a}, "-9223372036854775808 -1 call snap": {Kind: trace.Called, Task: math.MinInt64, Nth: -1, Call: api.Call{Kind: api.Snap}},
	} {
		if got := Event(e); got != want {
			t.Errorf("%q, want %q", got, want)
		}
	}
}

func TestP43_2CountAndSum(t *testing.T) {
	var l []trace.Event
	for kind := -2; kind < 11; kind++ {
		for range max(kind, 1) {
			l = append(l, trace.Event{Kind: kind})
		}
	}
	if Count(l) != [8]int{3 + 8 + 9 + 10, 1, 2, 3, 4, 5, 6, 7} || Count(nil) != [8]int{} || Count([]trace.Event{{Kind: math.MinInt64}, {Kind: math.MaxInt64}}) != [8]int{2} {
		t.Error(Count(l))
	}
	for want, o := range map[string]engine.Outcome{
		"used 0 open 0 waiting - rest no": {}, "used 5 open 2 waiting b,?,a rest yes": {Used: 5, Open: 2, Rest: true, Waiting: []api.Key{ground.Key("b"), {}, ground.Key("a")}}, "used -5 open -2 waiting a rest no": {Used: -5, Open: -2, Waiting: []api.Key{ground.Key("a")}},
	} {
		if got := Sum(o); got != want {
			t.Errorf("%q, want %q", got, want)
		}
	}
}

func TestP43_3AndP43_4Text(t *testing.T) {
	o := engine.Outcome{Events: []trace.Event{{Kind: trace.Took, Key: ground.Key("a")}, {Kind: 9}}, Used: 3}
	if got := Text(o); got != "0 took a\n0 ?\nused 3 open 0 waiting - rest no\n" {
		t.Errorf("%q", got)
	}
	if got := Text(engine.Outcome{}); got != "used 0 open 0 waiting - rest no\n" {
		t.Errorf("%q", got)
	}
	c := api.Config{Stripes: 1, Samples: 2, Loads: 2, History: 2}
	run, _ := engine.Run(c, [][]api.Call{{{Kind: api.Set, Id: "a", Policy: policy.Usual()}, {Kind: api.Ingest, Id: "a", Tick: 1, Value: 250}}}, 1, make([]int, 100))
	text := Text(run)
	if strings.Count(text, "\n") != len(run.Events)+1 || !strings.Contains(text, "1 noted a tick 1 load 250 want 3 replicas 3 why 2\n") {
		t.Error(text)
	}
}

func TestP43_3Last(t *testing.T) {
	noted := func(k api.Key, tick int64) trace.Event {
		a := advice
		a.Tick = tick
		return trace.Event{Kind: trace.Noted, Key: k, Advice: a}
	}
	a, b := ground.Key("a"), ground.Key("b")
	l := []trace.Event{noted(b, 1), noted(a, 7), {Kind: trace.Saw, Key: ground.Key("c")}, noted(b, 9), noted(api.Key{Lo: 3}, 1)}
	rest := strings.TrimPrefix(told, "tick 1")
	if got := Last(l); !slices.Equal(got, []string{"? tick 1" + rest, "a tick 7" + rest, "b tick 9" + rest}) || len(Last(nil)) != 0 {
		t.Errorf("%q", got)
	}
}
