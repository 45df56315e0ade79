package engine

import (
	"math"
	"math/rand"
	"reflect"
	"slices"
	"testing"

	"flywheel/api"
	"flywheel/ground"
	"flywheel/policy"
	"flywheel/trace"
)

var two = api.Config{Stripes: 2, Samples: 3, Loads: 3, History: 3}

func ingest(id string, tick, value int64) api.Call {
	return api.Call{Kind: api.Ingest, Id: id, Tick: tick, Value: value}
}

func set(id string) api.Call {
	return api.Call{Kind: api.Set, Id: id, Policy: policy.Usual()}
}

func programs() [][]api.Call {
	return [][]api.Call{
		{set("a"), ingest("a", 1, 250), {Kind: api.Snap}, ingest("a", 2, 100), {Kind: api.Read, Id: "a"}},
		{ingest("b", 1, 10), set("b"), {Kind: api.Trim, Tick: 2}, {Kind: api.Look, Handle: 1, Id: "a", Tick: 9, Value: 9}},
	}
}

func TestP34_1New(t *testing.T) {
	e, err := New(two, programs(), 3)
	if err != api.OK || e.Count() != 5 || e.World() == nil || e.World() != e.World() || e.World().Config() != two || e.Open() != 2 || len(e.Keys()) != 0 || e.Rest() {
		t.Error("a new engine", err)
	}
	if o := e.Outcome(); !reflect.DeepEqual(o, Outcome{Open: 2}) {
		t.Errorf("%+v", o)
	}
	for _, c := range []struct {
		config  api.Config
		l       [][]api.Call
		workers int
		err     api.Errno
	}{{api.Config{}, nil, 1, api.ErrArg}, {two, nil, 0, api.ErrArg}, {two, programs(), 31, api.ErrArg}, {two, programs(), -1, api.ErrArg}, {two, [][]api.Call{make([]api.Call, 257)}, 1, api.ErrLimit}} {
		if e, err := New(c.config, c.l, c.workers); e != nil || err != c.err {
			t.Error(e, err)
		}
		if o, err := Run(c.config, c.l, c.workers, []int{1, 2}); !reflect.DeepEqual(o, Outcome{}) || err != c.err {
			t.Error(o, err)
		}
	}
}

func TestP34_1NilAndUnmade(t *testing.T) {
	var zero Engine
	for _, e := range []*Engine{nil, &zero} {
		if e.World() != nil || e.Count() != 0 || e.Step(0) != -1 || e.Run([]int{0, 1}) != 0 || e.Open() != 0 || len(e.Keys()) != 0 || !e.Rest() {
			t.Error("something is there")
		}
		if o := e.Outcome(); !reflect.DeepEqual(o, Outcome{Rest: e != nil}) {
			t.Errorf("%+v", o)
		}
	}
}

func TestP34_2StepAndRun(t *testing.T) {
	e, _ := New(two, programs(), 1)
	for _, c := range [][2]int{{0, 0}, {1, 1}, {2, 2}, {5, 2}, {5, 0}, {-1, 0}, {math.MinInt64, 1}} {
		if got := e.Step(c[0]); got != c[1] {
			t.Errorf("Step(%d) = %d", c[0], got)
		}
	}
	if e.Outcome().Used != 7 {
		t.Error(e.Outcome().Used)
	}
	long := make([]int, 500)
	n := e.Run(long)
	if n >= 500 || e.Outcome().Used != 7+n || !e.Rest() || e.Step(0) != -1 || e.Run(long) != 0 {
		t.Error(n)
	}
	f, _ := New(two, programs(), 1)
	if f.Run(make([]int, 3)) != 3 || f.Outcome().Used != 3 {
		t.Error("as many as there are picks")
	}
}

func TestP34_3Outcome(t *testing.T) {
	e, _ := New(two, [][]api.Call{{ingest("a", 1, 5)}, {ingest("b", 1, 5)}}, 0)
	e.Run(make([]int, 8))
	o := e.Outcome()
	if o.Open != 1 || o.Rest || !slices.Equal(o.Waiting, []api.Key{ground.Key("a")}) || o.Used != 8 || len(o.Events) != 3 {
		t.Errorf("%+v", o)
	}
	e.Run(make([]int, 99))
	if o := e.Outcome(); o.Open != 0 || !o.Rest || !slices.Equal(o.Waiting, []api.Key{ground.Key("a"), ground.Key("b")}) || o.Used != 16 || !slices.Equal(o.Events, e.World().Events()) {
		t.Errorf("%+v", o)
	}
	w, _ := New(two, [][]api.Call{{ingest("a", 1, 5), ingest("b", 1, 5)}}, 2)
	w.Run(make([]int, 16))
	for _, pick := range []int{2, 2, 2, 1, 1, 1} {
		w.Step(pick)
	}
	if !slices.Equal(w.Keys(), []api.Key{ground.Key("b"), ground.Key("a")}) {
		t.Error("worker by worker:", w.Keys())
	}
}

func TestP34_4Run(t *testing.T) {
	o, err := Run(two, [][]api.Call{{ingest("a", 1, 5)}}, 0, make([]int, 20))
	if err != api.OK || o.Used != 8 || o.Open != 0 || !o.Rest || !slices.Equal(o.Waiting, []api.Key{ground.Key("a")}) {
		t.Errorf("%+v, %d", o, err)
	}
	picks := []int{3, 1, 4, 1, 5, 9, 2, 6, -5, 3}
	e, _ := New(two, programs(), 2)
	e.Run(picks)
	if o, _ := Run(two, programs(), 2, picks); !reflect.DeepEqual(o, e.Outcome()) {
		t.Errorf("%+v", o)
	}
}

func TestP34_1WorkersNumbersStandBehind(t *testing.T) {
	e, _ := New(two, [][]api.Call{{ingest("a", 1, 5), ingest("b", 1, 5), ingest("c", 1, 5)}}, 3)
	e.Run(make([]int, 24))
	var tasks []int
	for _, pick := range []int{1, 1, 1, 2, 2, 2, 3, 3, 3} {
		e.Step(pick)
	}
	for _, event := range trace.Kind(e.World().Events(), trace.Took) {
		tasks = append(tasks, event.Task)
	}
	if !slices.Equal(tasks, []int{1, 2, 3}) {
		t.Error(tasks)
	}
}

func TestP34_4ClientsAndWorkers(t *testing.T) {
	o, _ := Run(two, [][]api.Call{{set("a"), ingest("a", 1, 250), ingest("a", 2, 100)}}, 1, make([]int, 300))
	l := trace.Kind(o.Events, trace.Noted)
	if !o.Rest || o.Open != 0 || len(o.Waiting) != 0 || len(l) == 0 || !trace.Right(o.Events) {
		t.Errorf("%+v", o)
	}
	shut, _ := Run(two, [][]api.Call{{{Kind: api.Shut}}}, 3, make([]int, 300))
	if e, _ := New(two, [][]api.Call{{{Kind: api.Shut}}}, 3); e.Run(make([]int, 300)) != shut.Used || !e.Rest() || len(e.World().Sleeping()) != 0 {
		t.Error("all workers went")
	}
}

func TestP34_5ThePicksAlone(t *testing.T) {
	for seed := range int64(30) {
		r := rand.New(rand.NewSource(seed))
		picks := make([]int, 400)
		for i := range picks {
			picks[i] = r.Intn(100) - 50
		}
		e, _ := New(two, programs(), 2)
		var named []int
		for _, pick := range picks {
			if place := e.Step(pick); place >= 0 {
				named = append(named, place)
			}
		}
		a, _ := Run(two, programs(), 2, picks)
		b, _ := Run(two, programs(), 2, named)
		if !reflect.DeepEqual(a, b) || !reflect.DeepEqual(a, e.Outcome()) || len(named) != a.Used {
			t.Fatal("seed", seed)
		}
	}
}
