package watch

import (
	"math/rand"
	"testing"

	"flywheel/api"
	"flywheel/engine"
	"flywheel/ground"
	"flywheel/policy"
	"flywheel/store"
)

var two = api.Config{Stripes: 2, Samples: 3, Loads: 2, History: 2}

func made(t *testing.T) *ground.World {
	w, err := ground.New(two)
	if err != api.OK {
		t.Fatal(err)
	}
	return w
}

func ingest(id string, tick int64) api.Call {
	return api.Call{Kind: api.Ingest, Id: id, Tick: tick, Value: 250 * tick}
}

func set(id string) api.Call {
	return api.Call{Kind: api.Set, Id: id, Policy: policy.Usual()}
}

func TestP38_1Order(t *testing.T) {
	w := made(t)
	w.Ask(1, 5, true)
	w.Ask(2, 5, true)
	w.Ask(3, 6, true)
	w.Ask(3, 5, true)
	if !Order(w) || !Order(nil) || !Order(&ground.World{}) {
		t.Error("it holds 1 and 2, and waits for 3")
	}
	w.Ask(0, 31, true)
	w.Ask(2, 31, true)
	if !Order(w) {
		t.Error("it holds 0, and waits for 2")
	}
	w.Ask(0, 5, true)
	if Order(w) {
		t.Error("it holds 1, and waits for 0")
	}
	v := made(t)
	v.Ask(1, 31, false)
	v.Ask(0, 2, true)
	v.Ask(0, 31, false)
	if Order(v) {
		t.Error("the last task counts, too")
	}
}

func TestP38_1Alone(t *testing.T) {
	w := made(t)
	w.Ask(0, 1, true)
	w.Ask(0, 2, false)
	w.Ask(1, 1, false)
	w.Ask(1, 2, false)
	if !Alone(w) || !Alone(nil) {
		t.Error("who writes is alone")
	}
}

// What no world lets be is told of what it would be made of.
func TestP38_1WhatNoWorldLetsBe(t *testing.T) {
	for i, c := range []struct {
		holds []int
		waits int
		want  bool
	}{{nil, -1, true}, {nil, 0, true}, {[]int{0, 5}, -1, true}, {[]int{0, 5}, 6, true}, {[]int{0, 5}, 5, false}, {[]int{0, 5}, 3, false}, {[]int{5}, 0, false}} {
		if below(c.holds, c.waits) != c.want {
			t.Error(i)
		}
	}
	for i, c := range []struct {
		how  []int
		want bool
	}{{nil, true}, {[]int{1, 1, 0, 1}, true}, {[]int{0, 2}, true}, {[]int{2, 1}, false}, {[]int{1, 0, 2}, false}, {[]int{2, 2}, false}} {
		var first, last [api.MaxTasks]int
		copy(first[:], c.how)
		copy(last[api.MaxTasks-len(c.how):], c.how)
		if alone(first) != c.want || alone(last) != c.want {
			t.Error(i)
		}
	}
}

func TestP38_2WhatNoQueueLetsBe(t *testing.T) {
	a, b := ground.Key("a"), ground.Key("b")
	some := func(l ...api.Key) []api.Key { return l }
	for i, c := range []struct {
		line, busy, dirty, keys []api.Key
		want                    bool
	}{
		{nil, nil, nil, nil, true}, {some(b, a), nil, some(a, b), nil, true}, {some(a), some(b), some(a, b), some(b), true}, {nil, some(a, b), nil, some(b, a), true},
		{some(a, a), nil, some(a), nil, false}, {nil, some(a), nil, some(a, a), false}, {some(a), some(a), some(a), some(a), false}, {some(a), nil, nil, nil, false}, {nil, nil, some(a), nil, false}, {nil, some(b), some(a), some(b), false}, {nil, some(a), nil, nil, false}, {nil, nil, nil, some(a), false}, {nil, some(a), nil, some(b), false},
	} {
		if sound(c.line, c.busy, c.dirty, c.keys) != c.want {
			t.Error(i)
		}
	}
}

func TestP38_3WhatNoStoreLetsBe(t *testing.T) {
	for i, c := range []struct {
		l    []api.Sample
		want bool
	}{{nil, true}, {[]api.Sample{{Tick: 0}, {Tick: 5, Value: 3}, {Tick: 6}}, true}, {[]api.Sample{{Tick: 5}, {Tick: 5}}, false}, {[]api.Sample{{Tick: 6}, {Tick: 5}}, false}, {[]api.Sample{{Tick: -1}}, false}, {[]api.Sample{{Tick: 1}, {Tick: 2, Value: -1}}, false}} {
		if rises(c.l) != c.want {
			t.Error(i)
		}
	}
}

func TestP38_2Queue(t *testing.T) {
	a, b := ground.Key("a"), ground.Key("b")
	w := made(t)
	q := w.Queue()
	if !Queue(w, nil) || !Queue(nil, nil) || Queue(nil, []api.Key{a}) || Queue(w, []api.Key{a}) {
		t.Error("no keys")
	}
	q.Add(a)
	q.Add(b)
	if !Queue(w, nil) {
		t.Error("two that wait")
	}
	q.Get()
	if !Queue(w, []api.Key{a}) || Queue(w, nil) || Queue(w, []api.Key{b}) || Queue(w, []api.Key{a, a}) || Queue(w, []api.Key{a, b}) {
		t.Error("one that is busy")
	}
	q.Add(a)
	q.Get()
	if !Queue(w, []api.Key{b, a}) || Queue(w, []api.Key{a}) {
		t.Error("two that are busy")
	}
}

func TestP38_3Room(t *testing.T) {
	s, _ := store.New(two)
	if !Room(two, s) || !Room(two, nil) || !Room(api.Config{}, nil) || !Room(api.Config{}, s) {
		t.Error("nothing is there")
	}
	for tick := range int64(5) {
		for _, id := range []string{"a", "b", "c", "d", "e", "f"} {
			s.Do(ingest(id, tick))
			s.Do(set(id))
			s.Decide(id)
		}
	}
	if !Room(two, s) {
		t.Error("all that is there has its room")
	}
	for _, turn := range []func(c *api.Config){func(c *api.Config) { c.Loads-- }, func(c *api.Config) { c.Samples-- }, func(c *api.Config) { c.History-- }} {
		c := two
		if turn(&c); Room(c, s) {
			t.Errorf("%+v", c)
		}
	}
	k := ground.Key("x")
	other, _ := store.New(two)
	other.Stripe(1-other.Home(k)).Ingest(k, 1, 1)
	if Room(two, other) {
		t.Error("a workload that isn't in its stripe")
	}
}

func TestP38_4Safe(t *testing.T) {
	if Safe(two, nil) != 0 || Safe(two, &engine.Engine{}) != 0 {
		t.Error("no engine")
	}
	made := func() *engine.Engine {
		e, _ := engine.New(two, [][]api.Call{{ingest("a", 1)}, {ingest("a", 2)}}, 1)
		return e
	}
	order, queue, room := made(), made(), made()
	for _, e := range []*engine.Engine{order, queue, room} {
		if Safe(two, e) != 0 {
			t.Error("a new engine is safe")
		}
	}
	room.World().Do(ingest("a", 1))
	if got := Safe(api.Config{}, room); got != 4 {
		t.Error(got)
	}
	queue.World().Queue().Add(ground.Key("a"))
	queue.World().Queue().Get()
	queue.World().Do(ingest("a", 1))
	if got := Safe(api.Config{}, queue); got != 3 {
		t.Error(got)
	}
	w := order.World()
	w.Ask(1, 7, true)
	w.Ask(0, 6, true)
	w.Ask(0, 7, true)
	w.Queue().Add(ground.Key("a"))
	w.Queue().Get()
	if got := Safe(two, order); got != 1 {
		t.Error(got)
	}
}

func TestP38_4First(t *testing.T) {
	if n, bad, err := First(two, [][]api.Call{nil}, 0, nil); n != 0 || bad != 0 || err != api.OK {
		t.Error(n, bad, err)
	}
	for _, c := range []struct {
		config  api.Config
		l       [][]api.Call
		workers int
		err     api.Errno
	}{{api.Config{}, nil, 1, api.ErrArg}, {two, nil, 0, api.ErrArg}, {two, [][]api.Call{make([]api.Call, 257)}, 0, api.ErrLimit}} {
		if n, bad, err := First(c.config, c.l, c.workers, []int{1}); n != 0 || bad != 0 || err != c.err {
			t.Error(n, bad, err)
		}
	}
	l := [][]api.Call{{ingest("a", 1)}}
	if n, bad, err := First(two, l, 0, make([]int, 5)); n != 5 || bad != 0 || err != api.OK {
		t.Error(n, bad, err)
	}
	if n, bad, err := First(two, l, 0, make([]int, 50)); n != 8 || bad != 0 || err != api.OK {
		t.Error(n, bad, err)
	}
}

func TestP38_5EveryEngineIsSafe(t *testing.T) {
	programs := [][]api.Call{
		{set("a"), ingest("a", 1), {Kind: api.Snap}, ingest("b", 1), {Kind: api.Trim, Tick: 2}},
		{ingest("a", 2), set("b"), {Kind: api.Snap}, {Kind: api.Look, Handle: 1, Id: "a", Tick: 9, Value: 9}, ingest("c", 2)},
		{ingest("d", 2), ingest("e", 3), {Kind: api.Free, Handle: 1}, {Kind: api.Read, Id: "a"}, {Kind: api.Shut}},
	}
	for seed := range int64(60) {
		r := rand.New(rand.NewSource(seed))
		picks := make([]int, 500)
		for i := range picks {
			picks[i] = r.Intn(6)
		}
		if n, bad, err := First(two, programs, int(seed)%4, picks); bad != 0 || err != api.OK || n < 60 || n == 500 {
			t.Fatalf("seed %d: %d, %d, %d", seed, n, bad, err)
		}
	}
}
