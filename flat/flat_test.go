package flat

import (
	"math/rand"
	"reflect"
	"slices"
	"testing"

	"flywheel/api"
	"flywheel/ident"
	"flywheel/policy"
	"flywheel/store"
)

var small = api.Config{Stripes: 2, Samples: 3, Loads: 2, History: 2}

func ingest(id string, tick, value int64) api.Call {
	return api.Call{Kind: api.Ingest, Id: id, Tick: tick, Value: value}
}

func TestP22_1New(t *testing.T) {
	if m := New(small); m == nil || len(m.Ids()) != 0 {
		t.Error("a new map")
	}
	if New(api.Config{}) != nil || New(api.Config{Stripes: 3, Samples: 1, Loads: 1, History: 1}) != nil {
		t.Error("a config that may not be")
	}
}

func TestP22_1NilAndUnmade(t *testing.T) {
	var zero Map
	for _, m := range []*Map{nil, &zero} {
		if x, ok := m.Load("a"); len(m.Ids()) != 0 || !reflect.DeepEqual(x, Load{}) || ok || m.Twin() != nil || m.Note("a", api.Advice{}) {
			t.Error("something is there")
		}
		if a, err := m.Plan("a"); a != (api.Advice{}) || err != api.ErrNone {
			t.Error(a, err)
		}
		for c, err := range map[api.Call]api.Errno{
			{}: api.ErrKind, {Kind: 9}: api.ErrKind, ingest("A", 1, 1): api.ErrId, ingest("a", -1, 1): api.ErrNone, {Kind: api.Trim, Tick: -1}: api.ErrNone, {Kind: api.Snap}: api.ErrNone,
			{Kind: api.Free}: api.ErrNone, {Kind: api.Look}: api.ErrId, {Kind: api.Look, Id: "a"}: api.ErrNone, {Kind: api.Set, Id: "a"}: api.ErrNone, {Kind: api.Set}: api.ErrId, {Kind: api.Read}: api.ErrId, {Kind: api.Shut}: api.ErrNone,
		} {
			if r := m.Do(c); r != (api.Reply{Err: err}) {
				t.Errorf("%+v: %+v", c, r)
			}
		}
	}
}

func TestP22_1LoadAndIds(t *testing.T) {
	m := New(api.Config{Stripes: 1, Samples: 2, Loads: 9, History: 2})
	for _, c := range []api.Call{ingest("b", 5, 1), ingest("b", 3, 2), ingest("b", 9, 3), {Kind: api.Set, Id: "a", Policy: policy.Usual()}, ingest("b.", 1, 1), ingest("b-", 1, 1)} {
		m.Do(c)
	}
	m.Note("b", api.Advice{Tick: 1})
	if !slices.Equal(m.Ids(), []string{"a", "b", "b-", "b."}) {
		t.Error(m.Ids())
	}
	b, ok := m.Load("b")
	if want := (Load{Samples: []api.Sample{{Tick: 5, Value: 1}, {Tick: 9, Value: 3}}, Past: []api.Advice{{Tick: 1}}}); !reflect.DeepEqual(b, want) || !ok {
		t.Error(b, ok)
	}
	b.Samples[0].Tick, b.Past[0].Tick = 77, 77
	if again, _ := m.Load("b"); again.Samples[0].Tick != 5 || again.Past[0].Tick != 1 {
		t.Error("a Load shares memory")
	}
	if a, ok := m.Load("a"); a.Policy != policy.Usual() || !a.Ruled || len(a.Samples) != 0 || !ok {
		t.Error(a, ok)
	}
	if x, ok := m.Load("c"); !reflect.DeepEqual(x, Load{}) || ok {
		t.Error(x, ok)
	}
}

func TestP22_1Twin(t *testing.T) {
	m := New(small)
	m.Do(ingest("a", 1, 1))
	m.Do(api.Call{Kind: api.Snap})
	w := m.Twin()
	one := New(api.Config{Stripes: 1, Samples: 1, Loads: 1, History: 1})
	if one.Twin().Do(ingest("a", 1, 1)) != (api.Reply{}) || one.Do(ingest("b", 1, 1)) != (api.Reply{}) {
		t.Error("a map and its twin share their room")
	}
	w.Do(ingest("a", 2, 2))
	w.Do(api.Call{Kind: api.Free, Handle: 1})
	w.Note("a", api.Advice{Tick: 1})
	w.Do(api.Call{Kind: api.Shut})
	if x, _ := m.Load("a"); len(x.Samples) != 1 || len(x.Past) != 0 {
		t.Error("the map went with its twin")
	}
	if r := m.Do(api.Call{Kind: api.Look, Handle: 1, Id: "a", Tick: 9, Value: 9}); r.Err != api.OK || r.Stat.Count != 1 {
		t.Error(r)
	}
	if m.Do(api.Call{Kind: api.Shut}).Err != api.OK {
		t.Error("shut with its twin")
	}
	if r, s := m.Do(api.Call{Kind: api.Snap}), w.Do(api.Call{Kind: api.Snap}); r != s || r.Epoch != 2 {
		t.Error(r, s)
	}
}

func TestP22_3PlanAndNote(t *testing.T) {
	m := New(small)
	if a, err := m.Plan("a"); a != (api.Advice{}) || err != api.ErrNone || m.Note("a", api.Advice{}) {
		t.Error(a, err)
	}
	m.Do(api.Call{Kind: api.Set, Id: "a", Policy: policy.Usual()})
	if a, err := m.Plan("a"); a != (api.Advice{}) || err != api.ErrNone {
		t.Error(a, err)
	}
	m.Do(ingest("a", 1, 250))
	want := api.Advice{Tick: 1, Load: 250, Want: 3, Replicas: 3, Why: api.Up}
	for range 2 {
		if a, err := m.Plan("a"); a != want || err != api.OK {
			t.Error(a, err)
		}
	}
	if r := m.Do(api.Call{Kind: api.Read, Id: "a"}); r != (api.Reply{}) {
		t.Error(r)
	}
	if !m.Note("a", want) || m.Do(api.Call{Kind: api.Read, Id: "a"}) != (api.Reply{Advice: want}) {
		t.Error("Note")
	}
	m.Note("a", api.Advice{Tick: 2})
	m.Note("a", api.Advice{Tick: 3})
	if x, _ := m.Load("a"); !slices.Equal(x.Past, []api.Advice{{Tick: 2}, {Tick: 3}}) {
		t.Error(x.Past)
	}
	m.Do(ingest("b", 1, 1))
	if a, err := m.Plan("b"); a != (api.Advice{}) || err != api.ErrNone {
		t.Error("an id without a policy:", a, err)
	}
}

func randomCall(r *rand.Rand) api.Call {
	ids := []string{"a", "b", "c", "d", "e", "f", "A", ""}
	c := api.Call{Kind: 1 + r.Intn(7), Id: ids[r.Intn(len(ids))], Tick: int64(r.Intn(14) - 1), Value: int64(r.Intn(400) - 3), Handle: r.Intn(12), Policy: policy.Usual()}
	switch r.Intn(40) {
	case 0:
		c.Kind = r.Intn(12) - 2
	case 1:
		c.Policy = api.Policy{}
	case 2:
		c.Policy.Hold = 0
	}
	if c.Kind == api.Look {
		c.Value = int64(r.Intn(12) - 2)
	}
	if c.Kind == api.Trim && r.Intn(3) > 0 {
		c.Tick = 1
	}
	return c
}

func TestP22_2AndP22_4AsAStore(t *testing.T) {
	for seed := range int64(60) {
		r := rand.New(rand.NewSource(seed))
		c := api.Config{Stripes: 1 << r.Intn(3), Samples: 1 + r.Intn(4), Loads: 1 + r.Intn(3), History: 1 + r.Intn(3)}
		s, _ := store.New(c)
		m := New(c)
		for range 400 {
			x := randomCall(r)
			if got, want := m.Do(x), s.Do(x); got != want {
				t.Fatalf("seed %d: %+v: %+v, the store %+v", seed, x, got, want)
			}
			plan, err := m.Plan(x.Id)
			if ident.Check(x.Id) != api.OK {
				continue
			}
			made, made2 := s.Decide(x.Id)
			if plan != made || err != made2 || err == api.OK && !m.Note(x.Id, plan) {
				t.Fatalf("seed %d: %+v, %d, the store %+v, %d", seed, plan, err, made, made2)
			}
		}
		for _, id := range m.Ids() {
			x, _ := m.Load(id)
			k, _ := ident.Pack(id)
			n := s.Stripe(s.Home(k)).Get(k)
			p, ruled := n.Policy()
			if !slices.Equal(x.Samples, n.Samples()) || !slices.Equal(x.Past, n.Past()) || x.Policy != p || x.Ruled != ruled {
				t.Fatalf("seed %d: %s: %+v", seed, id, x)
			}
		}
	}
}

func TestP22_2RoomForCuts(t *testing.T) {
	m := New(small)
	for i := range api.MaxHandles {
		if r := m.Do(api.Call{Kind: api.Snap}); r != (api.Reply{Epoch: int64(i + 1), Handle: i + 1}) {
			t.Fatal(r)
		}
	}
	if r := m.Do(api.Call{Kind: api.Snap}); r != (api.Reply{Err: api.ErrFull}) {
		t.Error(r)
	}
	m.Do(api.Call{Kind: api.Free, Handle: 9})
	if r := m.Do(api.Call{Kind: api.Snap}); r != (api.Reply{Epoch: 65, Handle: 65}) {
		t.Error(r)
	}
	if r := m.Do(api.Call{Kind: api.Free, Handle: 9}); r != (api.Reply{Err: api.ErrFreed}) {
		t.Error(r)
	}
}
