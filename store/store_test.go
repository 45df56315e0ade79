package store

import (
	"math"
	"slices"
	"testing"

	"flywheel/api"
	"flywheel/cut"
	"flywheel/ident"
	"flywheel/policy"
	"flywheel/route"
	"flywheel/stripe"
)

var small = api.Config{Stripes: 4, Samples: 3, Loads: 2, History: 2}

func key(id string) api.Key {
	k, _ := ident.Pack(id)
	return k
}

func made(t *testing.T, c api.Config) *Store {
	s, err := New(c)
	if s == nil || err != api.OK {
		t.Fatal(err)
	}
	return s
}

func ingest(id string, tick, value int64) api.Call {
	return api.Call{Kind: api.Ingest, Id: id, Tick: tick, Value: value}
}

func look(n int, id string, to, width int64) api.Call {
	return api.Call{Kind: api.Look, Handle: n, Id: id, Tick: to, Value: width}
}

func set(id string, p api.Policy) api.Call {
	return api.Call{Kind: api.Set, Id: id, Policy: p}
}

func read(id string) api.Call {
	return api.Call{Kind: api.Read, Id: id}
}

func (s *Store) expect(t *testing.T, c api.Call, want api.Reply) {
	t.Helper()
	if got := s.Do(c); got != want {
		t.Errorf("%+v: %+v, want %+v", c, got, want)
	}
}

func TestP21_1New(t *testing.T) {
	s := made(t, small)
	if s.Count() != 4 || s.Stripe(0) == nil || s.Stripe(3) == nil || s.Stripe(0) == s.Stripe(1) || s.Stripe(2) != s.Stripe(2) || s.Stripe(4) != nil || s.Stripe(-1) != nil {
		t.Error("stripes")
	}
	for _, id := range []string{"a", "b", "c", "web-1"} {
		if s.Home(key(id)) != route.Of(key(id), 4) {
			t.Error(id)
		}
	}
	for _, c := range []api.Config{{}, {Stripes: 3, Samples: 1, Loads: 1, History: 1}} {
		if s, err := New(c); s != nil || err != api.ErrArg {
			t.Error(s, err)
		}
	}
}

func TestP21_1NilAndUnmade(t *testing.T) {
	var zero Store
	for _, s := range []*Store{nil, &zero} {
		if s.Count() != 0 || s.Stripe(0) != nil || s.Home(key("a")) != -1 {
			t.Error("stripes")
		}
		if epoch, n, err := s.Publish(nil); epoch != 0 || n != 0 || err != api.ErrNone {
			t.Error(epoch, n, err)
		}
		if c, err := s.Cut(1); c != nil || err != api.ErrNone || s.Free(1) != api.ErrNone || s.Shut() != api.ErrNone || s.Shut() != api.ErrNone {
			t.Error(c, err)
		}
		none := api.Reply{Err: api.ErrNone}
		if s.Look(1, key("a"), 1, 1) != none || s.Last(key("a")) != none {
			t.Error("Look, Last")
		}
		for c, err := range map[api.Call]api.Errno{
			{}: api.ErrKind, ingest("A", 1, 1): api.ErrId, ingest("a", -1, 1): api.ErrTick, ingest("a", 1, 1): api.ErrNone, {Kind: api.Snap}: api.ErrNone, {Kind: api.Shut}: api.ErrNone,
			{Kind: api.Trim}: api.ErrNone, {Kind: api.Trim, Tick: -1}: api.ErrTick, {Kind: api.Free}: api.ErrNone, look(1, "a", 1, 1): api.ErrNone, set("a", api.Policy{}): api.ErrPolicy, read("a"): api.ErrNone,
		} {
			s.expect(t, c, api.Reply{Err: err})
		}
		if a, err := s.Decide("a"); a != (api.Advice{}) || err != api.ErrNone {
			t.Error(a, err)
		}
		if a, err := s.Decide("A"); a != (api.Advice{}) || err != api.ErrId {
			t.Error(a, err)
		}
	}
}

func TestP21_2PublishCutFree(t *testing.T) {
	s := made(t, small)
	s.Do(ingest("a", 1, 5))
	part := s.Stripe(s.Home(key("a"))).Freeze()
	if epoch, n, err := s.Publish(part, nil); epoch != 1 || n != 1 || err != api.OK {
		t.Error(epoch, n, err)
	}
	if epoch, n, err := s.Publish(); epoch != 2 || n != 2 || err != api.OK {
		t.Error(epoch, n, err)
	}
	c, err := s.Cut(1)
	if err != api.OK || c.Epoch() != 1 || !slices.Equal(c.Keys(), []api.Key{key("a")}) {
		t.Error(err)
	}
	if again, _ := s.Cut(1); again != c || s.Free(1) != api.OK || s.Free(1) != api.ErrFreed || s.Free(9) != api.ErrNone {
		t.Error("Free")
	}
	if c, err := s.Cut(1); c != nil || err != api.ErrFreed {
		t.Error(c, err)
	}
	if epoch, n, err := s.Publish([]stripe.Entry{{Key: key("b")}}); epoch != 3 || n != 3 || err != api.OK {
		t.Error(epoch, n, err)
	}
}

func TestP21_2Shut(t *testing.T) {
	s := made(t, small)
	if s.Shut() != api.OK || s.Shut() != api.ErrShut || s.Shut() != api.ErrShut {
		t.Error("Shut")
	}
	s.expect(t, api.Call{Kind: api.Shut}, api.Reply{Err: api.ErrShut})
	s.expect(t, ingest("a", 1, 1), api.Reply{})
}

func TestP21_3Check(t *testing.T) {
	for c, want := range map[api.Call]api.Errno{
		{}: api.ErrKind, {Kind: 9}: api.ErrKind, {Kind: -1}: api.ErrKind, {Kind: math.MaxInt64, Id: "A"}: api.ErrKind,
		ingest("a", 0, 0): api.OK, ingest("A", -1, -1): api.ErrId, ingest("a", -1, -1): api.ErrTick, ingest("a", 1, -1): api.ErrValue,
		{Kind: api.Trim}: api.OK, {Kind: api.Trim, Tick: -1}: api.ErrTick, {Kind: api.Trim, Value: -1, Id: "A"}: api.OK,
		{Kind: api.Snap, Id: "A", Tick: -1}: api.OK, {Kind: api.Free, Handle: -5}: api.OK, {Kind: api.Shut, Value: -1}: api.OK,
		look(1, "", 1, 1): api.ErrId, look(-1, "a", -1, -1): api.OK,
		set("a", policy.Usual()): api.OK, set("", api.Policy{}): api.ErrId, set("a", api.Policy{}): api.ErrPolicy,
		read("a"): api.OK, read("a b"): api.ErrId,
	} {
		if got := Check(c); got != want {
			t.Errorf("%+v: %d, want %d", c, got, want)
		}
		if want != api.OK {
			made(t, small).expect(t, c, api.Reply{Err: want})
		}
	}
}

func TestP21_4DoIngestSnapLook(t *testing.T) {
	s := made(t, small)
	s.expect(t, ingest("a", 1, 5), api.Reply{})
	s.expect(t, api.Call{Kind: api.Snap}, api.Reply{Epoch: 1, Handle: 1})
	s.expect(t, ingest("a", 2, 7), api.Reply{})
	s.expect(t, look(1, "a", 9, 9), api.Reply{Epoch: 1, Stat: api.Stat{Count: 1, Sum: 5, Least: 5, Most: 5, Mean: 5}})
	s.expect(t, look(1, "a", 9, 8), api.Reply{Epoch: 1})
	s.expect(t, look(1, "b", 9, 9), api.Reply{Err: api.ErrNone})
	s.expect(t, look(2, "a", 9, 9), api.Reply{Err: api.ErrNone})
	s.expect(t, api.Call{Kind: api.Snap}, api.Reply{Epoch: 2, Handle: 2})
	s.expect(t, look(2, "a", 9, 9), api.Reply{Epoch: 2, Stat: api.Stat{Count: 2, Sum: 12, Least: 5, Most: 7, Mean: 6}})
	s.expect(t, api.Call{Kind: api.Free, Handle: 1}, api.Reply{})
	s.expect(t, api.Call{Kind: api.Free, Handle: 1}, api.Reply{Err: api.ErrFreed})
	s.expect(t, api.Call{Kind: api.Free, Handle: 7}, api.Reply{Err: api.ErrNone})
	s.expect(t, look(1, "a", 9, 9), api.Reply{Err: api.ErrFreed})
	if r := s.Look(2, key("a"), 2, 1); r != (api.Reply{Epoch: 2, Stat: api.Stat{Count: 1, Sum: 7, Least: 7, Most: 7, Mean: 7}}) {
		t.Error(r)
	}
}

func TestP21_4DoTrim(t *testing.T) {
	s := made(t, small)
	for _, id := range []string{"a", "b", "c", "d"} {
		s.expect(t, ingest(id, 3, 1), api.Reply{})
		s.expect(t, ingest(id, 5, 1), api.Reply{})
	}
	s.expect(t, api.Call{Kind: api.Trim, Tick: 5}, api.Reply{})
	for _, id := range []string{"a", "b", "c", "d"} {
		if l := s.Stripe(s.Home(key(id))).Get(key(id)).Samples(); !slices.Equal(l, []api.Sample{{Tick: 5, Value: 1}}) {
			t.Error(id, l)
		}
	}
}

func TestP21_4DoSetReadAndRoom(t *testing.T) {
	s := made(t, api.Config{Stripes: 1, Samples: 3, Loads: 2, History: 2})
	s.expect(t, read("a"), api.Reply{Err: api.ErrNone})
	s.expect(t, set("a", policy.Usual()), api.Reply{})
	s.expect(t, read("a"), api.Reply{})
	s.expect(t, ingest("b", 1, 1), api.Reply{})
	s.expect(t, ingest("c", 1, 1), api.Reply{Err: api.ErrFull})
	s.expect(t, set("c", policy.Usual()), api.Reply{Err: api.ErrFull})
	s.expect(t, read("c"), api.Reply{Err: api.ErrNone})
	s.Stripe(0).Note(key("b"), api.Advice{Tick: 1})
	s.expect(t, read("b"), api.Reply{Advice: api.Advice{Tick: 1}})
	s.Stripe(0).Note(key("b"), api.Advice{Tick: 2, Replicas: 7})
	s.expect(t, read("b"), api.Reply{Advice: api.Advice{Tick: 2, Replicas: 7}})
	if s.Last(key("b")) != s.Do(read("b")) {
		t.Error("Last")
	}
}

func TestP21_4SnapWithoutRoomChangesNothing(t *testing.T) {
	s := made(t, small)
	for i := range api.MaxHandles {
		s.expect(t, api.Call{Kind: api.Snap}, api.Reply{Epoch: int64(i + 1), Handle: i + 1})
	}
	s.Do(ingest("a", 1, 1))
	s.expect(t, api.Call{Kind: api.Snap}, api.Reply{Err: api.ErrFull})
	if epoch, n, err := s.Publish(); epoch != 0 || n != 0 || err != api.ErrFull {
		t.Error(epoch, n, err)
	}
	if s.Stripe(s.Home(key("a"))).Get(key("a")).Frozen() {
		t.Error("a refused Snap froze a node")
	}
	s.expect(t, api.Call{Kind: api.Free, Handle: 3}, api.Reply{})
	s.expect(t, api.Call{Kind: api.Snap}, api.Reply{Epoch: 65, Handle: 65})
}

func TestP21_5Decide(t *testing.T) {
	s := made(t, small)
	for _, step := range []struct {
		c    api.Call
		want api.Advice
		err  api.Errno
	}{
		{api.Call{}, api.Advice{}, api.ErrNone},
		{ingest("a", 1, 250), api.Advice{}, api.ErrNone},
		{set("a", policy.Usual()), api.Advice{Tick: 1, Load: 250, Want: 3, Replicas: 3, Why: api.Up}, api.OK},
		{ingest("a", 2, 100), api.Advice{Tick: 2, Load: 175, Want: 2, Replicas: 3, Why: api.Held}, api.OK},
		{api.Call{Kind: api.Trim, Tick: 9}, api.Advice{}, api.ErrNone},
	} {
		s.Do(step.c)
		if a, err := s.Decide("a"); a != step.want || err != step.err {
			t.Errorf("behind %+v: %+v, %d", step.c, a, err)
		}
	}
	if a, err := s.Decide("?"); a != (api.Advice{}) || err != api.ErrId {
		t.Error(a, err)
	}
	s.expect(t, read("a"), api.Reply{Advice: api.Advice{Tick: 2, Load: 175, Want: 2, Replicas: 3, Why: api.Held}})
}

func TestP21_6CutsStayAndEpochsRise(t *testing.T) {
	s := made(t, small)
	var cuts []*cut.Cut
	var told []api.Stat
	for i := range int64(20) {
		s.Do(ingest("a", i, i*i))
		if i == 5 {
			s.Do(set("a", policy.Usual()))
		}
		s.Decide("a")
		r := s.Do(api.Call{Kind: api.Snap})
		c, err := s.Cut(r.Handle)
		if r.Err != api.OK || err != api.OK || r.Epoch != i+1 || c.Epoch() != i+1 {
			t.Fatal(r, err)
		}
		cuts, told = append(cuts, c), append(told, c.Total(99, 99))
		for j := range cuts {
			if cuts[j].Total(99, 99) != told[j] {
				t.Fatalf("the cut %d changed", j)
			}
		}
	}
}
