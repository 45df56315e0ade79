package bound

import (
	"math/rand"
	"reflect"
	"testing"

	"flywheel/api"
	"flywheel/decided"
	"flywheel/engine"
	"flywheel/order"
	"flywheel/picks"
	"flywheel/policy"
	"flywheel/trace"
	"flywheel/watch"
)

var one = api.Config{Stripes: 1, Samples: 3, Loads: 2, History: 2}

func ingest(id string, tick, value int64) api.Call {
	return api.Call{Kind: api.Ingest, Id: id, Tick: tick, Value: value}
}

func set(id string) api.Call {
	return api.Call{Kind: api.Set, Id: id, Policy: policy.Usual()}
}

func TestP39_1StirsAndMost(t *testing.T) {
	l := [][]api.Call{{ingest("a", 1, 1), {Kind: api.Snap}, set("a")}, nil, {ingest("A", 1, 1), ingest("a", -1, 1), {Kind: api.Set, Id: "a"}, {Kind: 9}, set("b"), {Kind: api.Read, Id: "a"}}}
	if Stirs(l) != 3 || Stirs(nil) != 0 {
		t.Error(Stirs(l))
	}
	if n, err := Most(one, [][]api.Call{{ingest("a", 1, 1)}}, 1); n != 30 || err != api.OK {
		t.Error(n, err)
	}
	if n, err := Most(one, l, 3); n != 8+7+8+2+2+2+2+8+5+16*3+6*3 || err != api.OK {
		t.Error(n, err)
	}
	for _, c := range []struct {
		config  api.Config
		l       [][]api.Call
		workers int
		err     api.Errno
	}{{api.Config{}, nil, 1, api.ErrArg}, {one, nil, 0, api.ErrArg}, {one, [][]api.Call{make([]api.Call, 257)}, 1, api.ErrLimit}} {
		if n, err := Most(c.config, c.l, c.workers); n != 0 || err != c.err {
			t.Error(n, err)
		}
		if o, err := Finish(c.config, c.l, c.workers, nil); !reflect.DeepEqual(o, engine.Outcome{}) || err != c.err {
			t.Error(o, err)
		}
	}
}

func TestP39_2Finish(t *testing.T) {
	l := [][]api.Call{{set("a"), ingest("a", 1, 250)}, {ingest("b", 1, 1)}}
	for _, raw := range [][]int{nil, {1}, {5, -3, 2}} {
		most, _ := Most(one, l, 2)
		want, _ := engine.Run(one, l, 2, picks.Weave(4, most+1, raw))
		if o, err := Finish(one, l, 2, raw); !reflect.DeepEqual(o, want) || err != api.OK || !o.Rest || o.Open != 0 {
			t.Errorf("%v: %+v, %d", raw, o, err)
		}
	}
}

func TestP39_3Decisions(t *testing.T) {
	o := engine.Outcome{Events: []trace.Event{{Kind: trace.Noted}, {Kind: trace.Point}, {Kind: trace.Noted}, {Kind: trace.Saw}}}
	if Decisions(o) != 2 || Decisions(engine.Outcome{}) != 0 {
		t.Error(Decisions(o))
	}
}

func someCall(r *rand.Rand, shut bool) api.Call {
	id := []string{"a", "b", "c", "d", "B"}[r.Intn(5)]
	switch k := r.Intn(12); {
	case k < 4:
		return ingest(id, int64(r.Intn(9)-1), int64(r.Intn(900)))
	case k < 7:
		return set(id)
	case k < 8:
		return api.Call{Kind: api.Trim, Tick: int64(r.Intn(9))}
	case k < 9:
		return api.Call{Kind: api.Snap}
	case k < 10:
		return api.Call{Kind: api.Look, Handle: r.Intn(4), Id: id, Tick: 9, Value: 9}
	case k < 11:
		return api.Call{Kind: api.Free, Handle: r.Intn(4)}
	}
	if shut && r.Intn(3) == 0 {
		return api.Call{Kind: api.Shut}
	}
	return api.Call{Kind: api.Read, Id: id}
}

// TestTheWhole holds G1, G2, G4 and G5 against runs of all kinds; P39.2 and P39.4 with them.
func TestTheWhole(t *testing.T) {
	for seed := range int64(400) {
		r := rand.New(rand.NewSource(seed))
		c := api.Config{Stripes: 1 << r.Intn(3), Samples: 1 + r.Intn(4), Loads: 1 + r.Intn(3), History: 1 + r.Intn(3)}
		shut := seed%2 == 0
		programs := make([][]api.Call, 1+r.Intn(4))
		for i := range programs {
			for range r.Intn(6) {
				programs[i] = append(programs[i], someCall(r, shut))
			}
		}
		workers := r.Intn(4)
		most, _ := Most(c, programs, workers)
		l := make([]int, most+1)
		for i := range l {
			l[i] = r.Intn(32)
			if seed%3 == 0 { // long rows of one task
				l[i] = i / 20
			}
		}
		e, _ := engine.New(c, programs, workers)
		n := e.Run(l)
		o := e.Outcome()
		if n > most || !o.Rest || o.Open != 0 {
			t.Fatalf("seed %d: %d steps of %d, %d open", seed, n, most, o.Open)
		}
		if !order.Linear(c, o.Events) || !decided.Apart(o.Events) || decided.Wrong(c, o.Events) != -1 || decided.Outside(c, o.Events) != -1 {
			t.Fatalf("seed %d: not as if one by one", seed)
		}
		if used, bad, _ := watch.First(c, programs, workers, l); bad != 0 || used != n {
			t.Fatalf("seed %d: %d behind %d picks", seed, bad, used)
		}
		if Decisions(o) > Stirs(programs) {
			t.Fatalf("seed %d: %d decisions", seed, Decisions(o))
		}
		rested(t, seed, e, workers)
	}
}

// rested tells what must be once all rests.
func rested(t *testing.T, seed int64, e *engine.Engine, workers int) {
	t.Helper()
	o := e.Outcome()
	over := false
	for _, p := range o.Events {
		over = over || p.Kind == trace.Point && p.Call.Kind == api.Shut
	}
	if workers > 0 && len(e.Keys()) > 0 {
		t.Fatalf("seed %d: keys are worked at", seed)
	}
	if workers > 0 && len(o.Waiting) > 0 {
		t.Fatalf("seed %d: keys wait", seed)
	}
	if workers > 0 && !over && len(decided.Stale(o.Events)) > 0 {
		t.Fatalf("seed %d: %v", seed, decided.Stale(o.Events))
	}
	if over && len(e.World().Sleeping()) > 0 {
		t.Fatalf("seed %d: a worker sleeps, though all is shut", seed)
	}
}
