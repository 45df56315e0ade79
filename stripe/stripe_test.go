package stripe

import (
	"slices"
	"testing"

	"flywheel/api"
	"flywheel/node"
	"flywheel/policy"
)

var small = api.Config{Stripes: 1, Samples: 2, Loads: 2, History: 2}

func key(n uint64) api.Key {
	return api.Key{Hi: n << 54, Lo: 9 - n}
}

func TestP18_1New(t *testing.T) {
	if s := New(small); s == nil || s.Len() != 0 || len(s.Keys()) != 0 || s.Version() != 0 || len(s.Freeze()) != 0 {
		t.Error("a new stripe")
	}
	for _, c := range []api.Config{{}, {Stripes: 3, Samples: 1, Loads: 1, History: 1}, {Stripes: 1, Samples: 1, Loads: 0, History: 1}} {
		if New(c) != nil {
			t.Errorf("%+v", c)
		}
	}
}

func TestP18_1NilAndUnmade(t *testing.T) {
	var zero Stripe
	for _, s := range []*Stripe{nil, &zero} {
		if s.Ingest(key(1), 1, 1) != api.ErrNone || s.Ingest(key(1), -1, -1) != api.ErrTick || s.Ingest(key(1), 1, -1) != api.ErrValue {
			t.Error("Ingest")
		}
		if s.Set(key(1), policy.Usual()) != api.ErrNone || s.Set(key(1), api.Policy{}) != api.ErrPolicy || s.Note(key(1), api.Advice{}) != api.ErrNone {
			t.Error("Set, Note")
		}
		if s.Trim(9) != 0 || s.Get(key(1)) != nil || len(s.Keys()) != 0 || s.Len() != 0 || s.Version() != 0 || len(s.Freeze()) != 0 {
			t.Error("something is there")
		}
	}
}

func TestP18_2IngestSetNote(t *testing.T) {
	s := New(small)
	if s.Note(key(1), api.Advice{}) != api.ErrNone || s.Version() != 0 {
		t.Error("Note of a key without a node")
	}
	if s.Ingest(key(1), 5, 50) != api.OK || s.Version() != 1 || s.Ingest(key(1), 5, 51) != api.OK || s.Version() != 2 {
		t.Error("Ingest")
	}
	if s.Set(key(2), policy.Usual()) != api.OK || s.Version() != 3 || s.Len() != 2 {
		t.Error("Set")
	}
	if s.Note(key(2), api.Advice{Tick: 7}) != api.OK || s.Version() != 4 {
		t.Error("Note")
	}
	for _, c := range []struct{ got, want api.Errno }{
		{s.Ingest(key(3), 1, 1), api.ErrFull}, {s.Ingest(key(3), -1, 1), api.ErrTick}, {s.Ingest(key(1), 1, -1), api.ErrValue},
		{s.Set(key(3), policy.Usual()), api.ErrFull}, {s.Set(key(3), api.Policy{}), api.ErrPolicy}, {s.Set(key(1), api.Policy{}), api.ErrPolicy}, {s.Note(key(3), api.Advice{}), api.ErrNone},
	} {
		if c.got != c.want {
			t.Errorf("%d, want %d", c.got, c.want)
		}
	}
	if s.Version() != 4 || s.Len() != 2 || s.Get(key(3)) != nil {
		t.Error("what is refused changes nothing")
	}
	if !slices.Equal(s.Get(key(1)).Samples(), []api.Sample{{Tick: 5, Value: 51}}) || !slices.Equal(s.Get(key(2)).Past(), []api.Advice{{Tick: 7}}) {
		t.Error("what is there")
	}
	if p, ok := s.Get(key(2)).Policy(); p != policy.Usual() || !ok {
		t.Error(p, ok)
	}
	if s.Get(key(1)) != s.Get(key(1)) || s.Ingest(key(2), 1, 1) != api.OK || s.Set(key(1), policy.Usual()) != api.OK {
		t.Error("known keys find room")
	}
}

func TestP18_3Trim(t *testing.T) {
	s := New(small)
	s.Ingest(key(1), 3, 1)
	s.Ingest(key(1), 5, 1)
	s.Ingest(key(2), 4, 1)
	if s.Trim(3) != 0 || s.Version() != 3 {
		t.Error("Trim of none", s.Version())
	}
	if n := s.Trim(5); n != 2 || s.Version() != 5 || s.Len() != 2 {
		t.Error(n, s.Version(), s.Len())
	}
	if n := s.Trim(9); n != 1 || s.Version() != 6 || len(s.Get(key(1)).Samples()) != 0 {
		t.Error(n, s.Version())
	}
}

func TestP18_4Keys(t *testing.T) {
	s := New(api.Config{Stripes: 1, Samples: 1, Loads: 9, History: 1})
	for _, n := range []uint64{5, 2, 9, 2, 7} {
		s.Ingest(key(n), 1, 1)
	}
	if !slices.Equal(s.Keys(), []api.Key{key(2), key(5), key(7), key(9)}) || s.Len() != 4 {
		t.Error(s.Keys())
	}
	if s.Ingest(api.Key{}, 1, 1) != api.OK || s.Ingest(api.Key{Hi: 1 << 63, Lo: 5}, 1, 1) != api.OK || s.Len() != 6 {
		t.Error("keys may be any")
	}
}

func TestP18_5AndP18_6Freeze(t *testing.T) {
	s := New(small)
	s.Ingest(key(2), 5, 50)
	s.Set(key(1), policy.Usual())
	l := s.Freeze()
	if len(l) != 2 || l[0].Key != key(1) || l[1].Key != key(2) || l[1].Node != s.Get(key(2)) || !l[0].Node.Frozen() || !l[1].Node.Frozen() || s.Version() != 2 {
		t.Fatal(l)
	}
	s.Ingest(key(2), 6, 60)
	if len(s.Get(key(2)).Samples()) != 2 {
		t.Error("the sample is lost")
	}
	s.Note(key(1), api.Advice{Tick: 1})
	s.Freeze()
	other := policy.Usual()
	other.Max = 99
	s.Set(key(1), other)
	if p, _ := s.Get(key(1)).Policy(); p != other {
		t.Error("the policy is lost")
	}
	s.Trim(99)
	if !slices.Equal(l[1].Node.Samples(), []api.Sample{{Tick: 5, Value: 50}}) || len(l[0].Node.Past()) != 0 || s.Get(key(2)) == l[1].Node || s.Get(key(2)).Frozen() {
		t.Error("what was frozen changed")
	}
	if len(s.Get(key(1)).Past()) != 1 || len(s.Get(key(2)).Samples()) != 0 || s.Version() != 6 {
		t.Error("what answers is the key's node from then on", s.Version())
	}
}

func TestP18_5Sort(t *testing.T) {
	a, b := node.New(small), node.New(small)
	l := []Entry{{key(3), a}, {key(1), a}, {key(3), b}, {key(1), nil}, {key(2), b}}
	kept := slices.Clone(l)
	if got := Sort(l); !slices.Equal(got, []Entry{{key(1), a}, {key(1), nil}, {key(2), b}, {key(3), a}, {key(3), b}}) || len(Sort(nil)) != 0 {
		t.Error(got)
	}
	if !slices.Equal(l, kept) {
		t.Error("Sort changed what it was given")
	}
}

func TestP18_6Room(t *testing.T) {
	s := New(api.Config{Stripes: 1, Samples: 1, Loads: 256, History: 1})
	for i := range uint64(300) {
		err := s.Ingest(api.Key{Lo: i}, 1, 1)
		if (err == api.OK) != (i < 256) || err != api.OK && err != api.ErrFull {
			t.Fatal(i, err)
		}
	}
	if s.Len() != 256 {
		t.Error(s.Len())
	}
}
