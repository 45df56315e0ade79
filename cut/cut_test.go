package cut

import (
	"slices"
	"testing"

	"flywheel/api"
	"flywheel/node"
	"flywheel/policy"
	"flywheel/stripe"
	"flywheel/window"
)

var small = api.Config{Stripes: 1, Samples: 4, Loads: 4, History: 2}

func key(n uint64) api.Key {
	return api.Key{Hi: n, Lo: 9 - n}
}

func with(samples ...int64) *node.Node {
	n := node.New(small)
	for i := 0; i < len(samples); i += 2 {
		n.Put(samples[i], samples[i+1])
	}
	return n
}

func entry(k uint64, n *node.Node) stripe.Entry {
	return stripe.Entry{Key: key(k), Node: n}
}

func TestP19_1NewAndNil(t *testing.T) {
	var zero Cut
	for _, c := range []*Cut{nil, &zero, New(0), New(0, nil, nil)} {
		if n, ok := c.Get(key(1)); c.Epoch() != 0 || len(c.Keys()) != 0 || n != nil || ok || c.Total(9, 9) != (api.Stat{}) {
			t.Error("something is there")
		}
		if s, ok := c.Stat(key(1), 9, 9); s != (api.Stat{}) || ok {
			t.Error(s, ok)
		}
	}
	if New(7).Epoch() != 7 || New(-7).Epoch() != -7 {
		t.Error("the epoch")
	}
	c := New(1, []stripe.Entry{entry(1, with(1, 1)), entry(2, with(1, 1).Freeze()), entry(3, nil), entry(4, &node.Node{})})
	if !slices.Equal(c.Keys(), []api.Key{key(2)}) {
		t.Error("only frozen nodes are in a cut", c.Keys())
	}
}

func TestP19_2KeysAndGet(t *testing.T) {
	a, b, x := with(1, 1).Freeze(), with(2, 2).Freeze(), with(3, 3)
	parts := [][]stripe.Entry{{entry(5, a), entry(2, b)}, {entry(2, a), entry(7, x)}, {entry(7, b), entry(7, a)}}
	c := New(3, parts...)
	if !slices.Equal(c.Keys(), []api.Key{key(2), key(5), key(7)}) {
		t.Error(c.Keys())
	}
	for k, want := range map[uint64]*node.Node{5: a, 2: b, 7: b} {
		if n, ok := c.Get(key(k)); n != want || !ok {
			t.Errorf("the node of %d", k)
		}
	}
	for _, k := range []uint64{1, 3, 9} {
		if n, ok := c.Get(key(k)); n != nil || ok {
			t.Errorf("the node of %d", k)
		}
	}
	if parts[0][0] != entry(5, a) || parts[1][1] != entry(7, x) {
		t.Error("New changed what it was given")
	}
	parts[0][0] = entry(8, a)
	c.Keys()[0] = key(9)
	if _, ok := c.Get(key(5)); !ok || c.Keys()[0] != key(2) {
		t.Error("a cut shares memory")
	}
}

func TestP19_3StatAndTotal(t *testing.T) {
	c := New(1, []stripe.Entry{entry(3, with(1, 10, 2, 20, 5, 50).Freeze()), entry(1, with(2, 7).Freeze())})
	if s, ok := c.Stat(key(3), 2, 2); s != (api.Stat{Count: 2, Sum: 30, Least: 10, Most: 20, Mean: 15}) || !ok {
		t.Error(s, ok)
	}
	if s, ok := c.Stat(key(3), 99, 2); s != (api.Stat{}) || !ok {
		t.Error(s, ok)
	}
	if s, ok := c.Stat(key(2), 2, 2); s != (api.Stat{}) || ok {
		t.Error(s, ok)
	}
	first, _ := c.Stat(key(1), 5, 9)
	second, _ := c.Stat(key(3), 5, 9)
	if s := c.Total(5, 9); s != window.Merge(window.Merge(api.Stat{}, first), second) || s.Count != 4 || s.Sum != 87 {
		t.Error(s)
	}
	if s := c.Total(2, 1); s != (api.Stat{Count: 2, Sum: 27, Least: 7, Most: 20, Mean: 14}) {
		t.Error(s)
	}
}

func TestP19_4AlikeAndDiffer(t *testing.T) {
	base := func() *node.Node { return with(1, 10) }
	sampled, ruled, noted := base(), base(), base()
	sampled.Put(1, 11)
	ruled.Set(policy.Usual())
	noted.Note(api.Advice{})
	for i, x := range []*node.Node{base(), sampled, ruled, noted, with()} {
		for j, y := range []*node.Node{base(), sampled, ruled, noted, with()} {
			if Alike(x, y) != (i == j) {
				t.Errorf("the nodes %d and %d", i, j)
			}
		}
	}
	same := base()
	same.Put(1, 11)
	same.Put(1, 10)
	if !Alike(same, base().Freeze()) || !Alike(nil, nil) || !Alike(nil, with()) || Alike(nil, base()) || Alike(base(), nil) {
		t.Error("versions, freezing and nil nodes")
	}
	a := New(1, []stripe.Entry{entry(1, base().Freeze()), entry(3, base().Freeze()), entry(5, base().Freeze())})
	b := New(2, []stripe.Entry{entry(1, base().Freeze()), entry(3, sampled.Freeze()), entry(4, base().Freeze())})
	want := []api.Key{key(3), key(4), key(5)}
	if !slices.Equal(Differ(a, b), want) || !slices.Equal(Differ(b, a), want) || len(Differ(a, a)) != 0 {
		t.Error(Differ(a, b))
	}
	empty := New(3, []stripe.Entry{entry(1, with().Freeze())})
	if !slices.Equal(Differ(nil, empty), empty.Keys()) || !slices.Equal(Differ(empty, nil), empty.Keys()) {
		t.Error("a workload that has nothing is there all the same")
	}
	if !slices.Equal(Differ(nil, a), a.Keys()) || len(Differ(nil, nil)) != 0 {
		t.Error(Differ(nil, a))
	}
}

func TestP19_5WhatIsDoneBehindFreeze(t *testing.T) {
	s := stripe.New(small)
	s.Ingest(key(1), 1, 10)
	c := New(1, s.Freeze())
	before, _ := c.Stat(key(1), 9, 9)
	s.Ingest(key(1), 2, 20)
	s.Ingest(key(2), 2, 20)
	s.Set(key(1), policy.Usual())
	s.Trim(50)
	after, ok := c.Stat(key(1), 9, 9)
	n, _ := c.Get(key(1))
	if _, ruled := n.Policy(); before != after || !ok || ruled || len(c.Keys()) != 1 {
		t.Error("a cut changed")
	}
}
