package node

import (
	"math"
	"slices"
	"testing"

	"flywheel/api"
	"flywheel/policy"
)

var small = api.Config{Stripes: 1, Samples: 2, Loads: 1, History: 2}

func TestP17_1RightAndNew(t *testing.T) {
	for _, c := range []api.Config{small, {Stripes: 64, Samples: 256, Loads: 256, History: 64}, {Stripes: 8, Samples: 1, Loads: 1, History: 1}} {
		if n := New(c); Right(c) != api.OK || n == nil || n.Version() != 0 || len(n.Samples()) != 0 || len(n.Past()) != 0 || n.Frozen() {
			t.Errorf("%+v", c)
		}
	}
	for _, c := range []api.Config{
		{}, {Stripes: 3, Samples: 1, Loads: 1, History: 1}, {Stripes: 0, Samples: 1, Loads: 1, History: 1}, {Stripes: 128, Samples: 1, Loads: 1, History: 1}, {Stripes: -1, Samples: 1, Loads: 1, History: 1}, {Stripes: 1, Samples: 0, Loads: 1, History: 1}, {Stripes: 1, Samples: 257, Loads: 1, History: 1}, {Stripes: 1, Samples: -1, Loads: 1, History: 1}, {Stripes: 1, Samples: 1, Loads: 0, History: 1}, {Stripes: 1, Samples: 1, Loads: 257, History: 1}, {Stripes: 1, Samples: 1, Loads: -1, History: 1}, {Stripes: 1, Samples: 1, Loads: 1, History: 0}, {Stripes: 1, Samples: 1, Loads: 1, History: 65}, {Stripes: 1, Samples: 1, Loads: 1, History: -1},
		{Stripes: math.MaxInt64, Samples: math.MaxInt64, Loads: math.MaxInt64, History: math.MaxInt64},
	} {
		if Right(c) != api.ErrArg || New(c) != nil {
			t.Errorf("%+v", c)
		}
	}
}

func TestP17_2AndP17_5Freeze(t *testing.T) {
	n := New(small)
	n.Put(1, 10)
	n.Set(policy.Usual())
	n.Note(api.Advice{Tick: 1})
	if n.Freeze() != n || !n.Frozen() || n.Freeze() != n {
		t.Fatal("Freeze answers the node itself")
	}
	samples, past, version := n.Samples(), n.Past(), n.Version()
	other := policy.Usual()
	other.Max = 99
	put, _ := n.Put(2, 20)
	set, _ := n.Set(other)
	trimmed, gone := n.Trim(2)
	noted := n.Note(api.Advice{Tick: 2})
	for _, m := range []*Node{put, set, trimmed, noted} {
		if m == n || m.Frozen() || m.Version() != version+1 {
			t.Errorf("what is done to a frozen node is done to another one: version %d", m.Version())
		}
		m.Put(3, 30)
		m.Note(api.Advice{Tick: 3})
		m.Set(other)
		m.Trim(9)
	}
	if gone != 1 || len(noted.Past()) != 2 {
		t.Error(gone, noted.Past())
	}
	p, ok := n.Policy()
	if !slices.Equal(n.Samples(), samples) || !slices.Equal(n.Past(), past) || n.Version() != version || p != policy.Usual() || !ok || !n.Frozen() {
		t.Error("a frozen node changed")
	}
}

func TestP17_2AnotherOneIsAsItIs(t *testing.T) {
	n := New(small)
	n.Put(1, 10)
	n.Set(policy.Usual())
	n.Note(api.Advice{Tick: 1})
	m, _ := n.Freeze().Put(2, 20)
	p, ok := m.Policy()
	if !slices.Equal(m.Samples(), []api.Sample{{Tick: 1, Value: 10}, {Tick: 2, Value: 20}}) || p != policy.Usual() || !ok || !slices.Equal(m.Past(), n.Past()) || m.Version() != 4 {
		t.Error(m.Samples(), p, ok, m.Past(), m.Version())
	}
}

func TestP17_3WhatIsDone(t *testing.T) {
	n := New(small)
	if m, err := n.Put(5, 50); m != n || err != api.OK || n.Version() != 1 {
		t.Error("Put")
	}
	n.Put(7, 70)
	if m, err := n.Put(1, 10); m != n || err != api.OK || n.Version() != 3 || !slices.Equal(n.Samples(), []api.Sample{{Tick: 5, Value: 50}, {Tick: 7, Value: 70}}) {
		t.Error("Put of what goes at once", n.Samples(), n.Version())
	}
	if m, gone := n.Trim(5); m != n || gone != 0 || n.Version() != 3 {
		t.Error("Trim of none")
	}
	if m, gone := n.Trim(6); m != n || gone != 1 || n.Version() != 4 || len(n.Samples()) != 1 {
		t.Error("Trim of one")
	}
	if m, err := n.Set(policy.Usual()); m != n || err != api.OK || n.Version() != 5 {
		t.Error("Set")
	}
	for i := range int64(3) {
		if n.Note(api.Advice{Tick: i}) != n {
			t.Error("Note")
		}
	}
	if !slices.Equal(n.Past(), []api.Advice{{Tick: 1}, {Tick: 2}}) || n.Version() != 8 {
		t.Error(n.Past(), n.Version())
	}
}

func TestP17_3Errors(t *testing.T) {
	for _, frozen := range []bool{false, true} {
		n := New(small)
		n.Put(5, 50)
		if frozen {
			n.Freeze()
		}
		for _, c := range []struct {
			tick, value int64
			err         api.Errno
		}{{-1, 5, api.ErrTick}, {-1, -1, api.ErrTick}, {1, -1, api.ErrValue}} {
			if m, err := n.Put(c.tick, c.value); m != n || err != c.err {
				t.Error(m == n, err)
			}
		}
		if m, err := n.Set(api.Policy{}); m != n || err != api.ErrPolicy {
			t.Error(m == n, err)
		}
		if m, gone := n.Trim(5); m != n || gone != 0 {
			t.Error(m == n, gone)
		}
		if _, ok := n.Policy(); n.Version() != 1 || ok {
			t.Error("an error changed something")
		}
	}
}

func TestP17_4AnswersAreNew(t *testing.T) {
	n := New(small)
	n.Put(5, 50)
	n.Note(api.Advice{Tick: 5})
	n.Samples()[0].Value = 77
	n.Past()[0].Tick = 77
	if n.Samples()[0].Value != 50 || n.Past()[0].Tick != 5 {
		t.Error("a node shares memory")
	}
	if p, ok := n.Policy(); p != (api.Policy{}) || ok {
		t.Error(p, ok)
	}
}

func TestP17_4NilAndUnmade(t *testing.T) {
	var zero Node
	for _, n := range []*Node{nil, &zero} {
		if n.Freeze() != n || n.Frozen() {
			t.Error("Freeze")
		}
		if m, err := n.Put(1, 1); m != n || err != api.ErrNone {
			t.Error(err)
		}
		if m, err := n.Put(-1, 1); m != n || err != api.ErrTick {
			t.Error(err)
		}
		if m, err := n.Set(policy.Usual()); m != n || err != api.ErrNone {
			t.Error(err)
		}
		if m, err := n.Set(api.Policy{}); m != n || err != api.ErrPolicy {
			t.Error(err)
		}
		if m, gone := n.Trim(9); m != n || gone != 0 {
			t.Error(gone)
		}
		if n.Note(api.Advice{Tick: 1}) != n || len(n.Samples()) != 0 || len(n.Past()) != 0 || n.Version() != 0 {
			t.Error("something is there")
		}
		if p, ok := n.Policy(); p != (api.Policy{}) || ok {
			t.Error(p, ok)
		}
	}
}
