package client

import (
	"math"
	"slices"
	"testing"

	"flywheel/api"
	"flywheel/ground"
	"flywheel/policy"
	"flywheel/rwlock"
	"flywheel/trace"
)

var one = api.Config{Stripes: 1, Samples: 2, Loads: 1, History: 2}

func made(t *testing.T, c api.Config) *ground.World {
	w, err := ground.New(c)
	if err != api.OK {
		t.Fatal(err)
	}
	return w
}

// all does all steps, and tells how many.
func all(c *Client) int {
	n := 0
	for c.Ready() {
		c.Step()
		n++
	}
	return n
}

func ingest(id string) api.Call {
	return api.Call{Kind: api.Ingest, Id: id, Tick: 1, Value: 5}
}

func TestP32_1NewAndNil(t *testing.T) {
	w := made(t, one)
	for _, task := range []int{-1, 32, math.MinInt64, math.MaxInt64} {
		if New(w, task, nil) != nil {
			t.Error(task)
		}
	}
	if New(nil, 0, nil) != nil || New(&ground.World{}, 0, nil) != nil {
		t.Error("no world")
	}
	var zero Client
	for _, c := range []*Client{nil, &zero, New(nil, 0, nil)} {
		c.Step()
		if done, steps := c.Where(); !c.Over() || c.Ready() || done != 0 || steps != 0 {
			t.Error("there is nothing to do")
		}
	}
	for _, task := range []int{0, 31} {
		c := New(w, task, []api.Call{ingest("a")})
		if done, steps := c.Where(); c == nil || c.Over() || !c.Ready() || done != 0 || steps != 0 {
			t.Error("a new client")
		}
	}
	if c := New(w, 0, nil); !c.Over() || c.Ready() {
		t.Error("a client without calls")
	}
	program := []api.Call{ingest("a")}
	c := New(w, 3, program)
	program[0] = api.Call{}
	if all(c); w.Events()[0].Call != ingest("a") {
		t.Error("a client shares memory")
	}
}

func TestP32_3Read(t *testing.T) {
	w := made(t, one)
	read := api.Call{Kind: api.Read, Id: "a"}
	c := New(w, 7, []api.Call{read, read})
	for i := range 5 {
		if done, steps := c.Where(); done != 0 || steps != i || !c.Ready() {
			t.Error(done, steps)
		}
		if held := w.Held(0, 7); held != map[bool]int{true: rwlock.Read}[i == 2 || i == 3] {
			t.Error(i, held)
		}
		c.Step()
	}
	none := api.Reply{Err: api.ErrNone}
	want := []trace.Event{{Kind: trace.Called, Task: 7, Call: read}, {Kind: trace.Point, Task: 7, Call: read, Reply: none}, {Kind: trace.Returned, Task: 7, Reply: none}}
	if !slices.Equal(w.Events(), want) || len(w.Holds(7)) != 0 {
		t.Error(w.Events())
	}
	if done, steps := c.Where(); done != 1 || steps != 0 || c.Over() || !c.Ready() {
		t.Error(done, steps)
	}
	all(c)
	for i := range want {
		want[i].Nth = 1
	}
	if !slices.Equal(w.Events()[3:], want) || !c.Over() || c.Ready() {
		t.Error(w.Events())
	}
	c.Step()
	if done, steps := c.Where(); done != 2 || steps != 0 || len(w.Events()) != 6 {
		t.Error("a step behind the end")
	}
}

func TestP32_3RefusedCalls(t *testing.T) {
	w := made(t, one)
	bad := api.Call{Kind: api.Ingest, Id: "A"}
	c := New(w, 0, []api.Call{bad, {Kind: 9}})
	c.Step()
	refused := api.Reply{Err: api.ErrId}
	if !slices.Equal(w.Events(), []trace.Event{{Kind: trace.Called, Call: bad}, {Kind: trace.Point, Call: bad, Reply: refused}}) {
		t.Error(w.Events())
	}
	c.Step()
	if e := w.Events()[2]; e != (trace.Event{Kind: trace.Returned, Reply: refused}) {
		t.Error(e)
	}
	if all(c) != 2 || w.Events()[5].Reply.Err != api.ErrKind {
		t.Error(w.Events())
	}
}

func TestP32_3StepsAndWhatIsPassedOver(t *testing.T) {
	set := api.Call{Kind: api.Set, Id: "a", Policy: policy.Usual()}
	for _, c := range []struct {
		call  api.Call
		ahead []api.Call
		steps int
		err   api.Errno
		waits int
	}{
		{ingest("a"), nil, 8, api.OK, 1}, {set, nil, 8, api.OK, 1}, {ingest("b"), []api.Call{ingest("a")}, 5, api.ErrFull, 1}, {api.Call{Kind: api.Trim, Tick: 2}, nil, 5, api.OK, 0}, {api.Call{Kind: api.Snap}, nil, 7, api.OK, 0},
		{api.Call{Kind: api.Free, Handle: 1}, nil, 5, api.ErrNone, 0}, {api.Call{Kind: api.Look, Handle: 1, Id: "a"}, nil, 5, api.ErrNone, 0}, {api.Call{Kind: api.Read, Id: "a"}, nil, 5, api.ErrNone, 0}, {api.Call{Kind: api.Shut}, nil, 5, api.OK, 0},
	} {
		w := made(t, one)
		all(New(w, 1, c.ahead))
		x := New(w, 2, []api.Call{c.call})
		if n := all(x); n != c.steps || !x.Over() || len(w.Holds(2)) != 0 || len(w.Queue().Waiting()) != c.waits {
			t.Errorf("%+v: %d steps, %d keys wait", c.call, n, len(w.Queue().Waiting()))
		}
		l := trace.Of(w.Events(), 2)
		if len(l) != 3 || l[1].Kind != trace.Point || l[1].Reply.Err != c.err || l[2].Reply != l[1].Reply {
			t.Errorf("%+v: %+v", c.call, l)
		}
	}
}

func TestP32_2WhereCountsWhatIsPassedOver(t *testing.T) {
	w := made(t, one)
	all(New(w, 1, []api.Call{ingest("a")}))
	c := New(w, 2, []api.Call{ingest("b")})
	for _, want := range []int{0, 1, 2, 3, 7} {
		if done, steps := c.Where(); done != 0 || steps != want {
			t.Error(done, steps)
		}
		c.Step()
	}
	if done, steps := c.Where(); done != 1 || steps != 0 {
		t.Error(done, steps)
	}
}

func TestP32_3SnapWithoutRoomDropsAllLocks(t *testing.T) {
	w := made(t, api.Config{Stripes: 4, Samples: 1, Loads: 1, History: 1})
	for range api.MaxHandles {
		w.Do(api.Call{Kind: api.Snap})
	}
	c := New(w, 0, []api.Call{{Kind: api.Snap}})
	if n := all(c); n != 13 || len(w.Holds(0)) != 0 || w.Events()[2].Reply.Err != api.ErrFull {
		t.Error(n, w.Events())
	}
}

func TestP32_2WaitsForALock(t *testing.T) {
	w := made(t, one)
	w.Ask(0, 9, false)
	c := New(w, 2, []api.Call{ingest("a")})
	c.Step()
	c.Step()
	if c.Ready() || c.Over() || w.Waits(2) != 0 {
		t.Error("it waits")
	}
	c.Step()
	if done, steps := c.Where(); done != 0 || steps != 2 {
		t.Error("who waits does nothing:", done, steps)
	}
	w.Drop(0, 9)
	if !c.Ready() || w.Held(0, 2) != rwlock.Write {
		t.Error("it is given the lock")
	}
	if all(c) != 6 || !c.Over() {
		t.Error("it goes on")
	}
	w.Ask(0, 9, false)
	r := New(w, 3, []api.Call{{Kind: api.Read, Id: "a"}})
	if all(r) != 5 {
		t.Error("two who read")
	}
}
