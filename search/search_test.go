package search

import (
	"math/rand"
	"reflect"
	"slices"
	"testing"

	"flywheel/api"
	"flywheel/engine"
	"flywheel/ground"
	"flywheel/policy"
	"flywheel/trace"
)

var two = api.Config{Stripes: 2, Samples: 3, Loads: 3, History: 3}

func ingest(id string, tick, value int64) api.Call {
	return api.Call{Kind: api.Ingest, Id: id, Tick: tick, Value: value}
}

func snap(epoch int64, from, to int) Op {
	return Op{Call: api.Call{Kind: api.Snap}, Reply: api.Reply{Epoch: epoch, Handle: int(epoch)}, From: from, To: to}
}

func note(id string, tick int64, at int) Op {
	return Op{Call: api.Call{Id: id}, Reply: api.Reply{Advice: api.Advice{Tick: tick}}, From: at, To: at, Note: true}
}

func did(c api.Call, from, to int) Op {
	return Op{Call: c, From: from, To: to}
}

func TestP36_1Of(t *testing.T) {
	c, d := ingest("a", 1, 5), api.Call{Kind: api.Snap}
	l := []trace.Event{
		{Kind: trace.Called, Task: 1, Call: c}, {Kind: trace.Called, Task: 2, Call: d}, {Kind: trace.Point, Task: 2, Call: d, Reply: api.Reply{Epoch: 1}}, {Kind: trace.Point, Task: 1, Call: c},
		{Kind: trace.Noted, Task: 3, Key: ground.Key("a"), Advice: api.Advice{Tick: 9}}, {Kind: trace.Returned, Task: 1}, {Kind: trace.Noted, Key: api.Key{Lo: 1}}, {Kind: trace.Point, Task: 9, Nth: 4},
	}
	want := []Op{{Call: d, Reply: api.Reply{Epoch: 1}, From: 1, To: 8}, {Call: c, From: 0, To: 5}, note("a", 9, 4), {From: 6, To: 6, Note: true}, {From: -1, To: 8}}
	if got := Of(l); !reflect.DeepEqual(got, want) || len(Of(nil)) != 0 {
		t.Errorf("%+v", got)
	}
}

func TestP36_2Ahead(t *testing.T) {
	if !Ahead(snap(1, 0, 3), snap(2, 4, 5)) || Ahead(snap(1, 0, 4), snap(2, 4, 5)) || Ahead(snap(1, 4, 5), snap(2, 0, 3)) {
		t.Error("Ahead")
	}
}

func TestP36_2Is(t *testing.T) {
	l := []Op{snap(2, 0, 9), snap(1, 0, 9), did(ingest("a", 1, 5), 3, 4), note("a", 7, 6)}
	for _, c := range []struct {
		way  []int
		want bool
	}{
		{[]int{1, 0, 2, 3}, true}, {[]int{2, 3, 1, 0}, true}, {[]int{0, 1, 2, 3}, false}, {[]int{1, 0, 3, 2}, false}, {[]int{1, 0, 2}, false}, {[]int{1, 0, 2, 3, 3}, false}, {[]int{1, 0, 2, 2}, false}, {[]int{1, 0, 2, 4}, false}, {[]int{1, 0, 2, -1}, false}, {nil, false},
	} {
		if Is(two, l, c.way) != c.want {
			t.Error(c.way)
		}
	}
	if !Is(two, nil, nil) || Is(api.Config{}, nil, nil) || Is(two, nil, []int{0}) {
		t.Error("no ops")
	}
	late := []Op{snap(1, 5, 9), did(ingest("a", 1, 5), 0, 3)}
	if Is(two, late, []int{0, 1}) || !Is(two, late, []int{1, 0}) {
		t.Error("what ended ahead stands ahead")
	}
	odd := []Op{did(ingest("a", 1, 5), 9, 0)}
	if !Is(two, odd, []int{0}) {
		t.Error("an op does not stand behind itself")
	}
	if w, ok := Find(two, odd); !slices.Equal(w, []int{0}) || !ok {
		t.Error(w, ok)
	}
	other := []Op{{Call: api.Call{Id: "a", Kind: 77, Tick: -9}, Reply: api.Reply{Err: 5, Epoch: 3}, Note: true}}
	if Is(two, other, []int{0}) || !Is(two, append(other, did(ingest("a", 1, 1), 0, 9)), []int{1, 0}) {
		t.Error("of a note all else counts for nothing")
	}
}

func TestP36_3Find(t *testing.T) {
	for i, c := range []struct {
		l    []Op
		want []int
		ok   bool
	}{
		{nil, nil, true}, {[]Op{snap(2, 0, 9), snap(1, 0, 9)}, []int{1, 0}, true}, {[]Op{snap(2, 0, 3), snap(1, 4, 9)}, nil, false}, {[]Op{snap(1, 0, 9), snap(2, 0, 9)}, []int{0, 1}, true}, {[]Op{snap(3, 0, 9)}, nil, false},
		{[]Op{did(ingest("a", 1, 1), 0, 9), did(ingest("b", 1, 1), 0, 9), did(ingest("c", 1, 1), 0, 9)}, []int{0, 1, 2}, true}, {[]Op{note("a", 1, 5), did(ingest("a", 1, 1), 0, 9)}, []int{1, 0}, true}, {[]Op{note("", 1, 5)}, nil, false},
	} {
		if got, ok := Find(two, c.l); !slices.Equal(got, c.want) || ok != c.ok {
			t.Errorf("%d: %v, %v", i, got, ok)
		}
	}
	many := make([]Op, 9)
	for i := range many {
		many[i] = did(ingest("a", int64(i), 1), 0, 9)
	}
	if got, ok := Find(two, many); len(got) != 0 || ok {
		t.Error("nine ops")
	}
	if got, ok := Find(two, many[:8]); !slices.Equal(got, []int{0, 1, 2, 3, 4, 5, 6, 7}) || !ok {
		t.Error(got, ok)
	}
	if got, ok := Find(api.Config{}, nil); len(got) != 0 || ok {
		t.Error("no map of that config")
	}
}

// least tries all ways, in order.
func least(c api.Config, l []Op, way []int) ([]int, bool) {
	if len(way) == len(l) {
		return way, Is(c, l, way)
	}
	for i := range l {
		if !slices.Contains(way, i) {
			if found, ok := least(c, l, append(slices.Clone(way), i)); ok {
				return found, true
			}
		}
	}
	return nil, false
}

func TestP36_3FindIsTheLeast(t *testing.T) {
	found := 0
	for seed := range int64(300) {
		r := rand.New(rand.NewSource(seed))
		m := make([]Op, 1+r.Intn(5))
		for i := range m {
			from := r.Intn(6)
			to := from + r.Intn(6)
			switch r.Intn(4) {
			case 0:
				m[i] = snap(int64(1+r.Intn(2)), from, to)
			case 1:
				m[i] = did(ingest("a", 1, 5), from, to)
			case 2:
				m[i] = note("a", 1, from)
			case 3:
				m[i] = Op{Call: api.Call{Kind: api.Read, Id: "a"}, Reply: []api.Reply{{}, {Err: api.ErrNone}, {Advice: api.Advice{Tick: 1}}}[r.Intn(3)], From: from, To: to}
			}
		}
		want, has := least(two, m, nil)
		got, ok := Find(two, m)
		if ok != has || ok && !slices.Equal(got, want) {
			t.Fatalf("seed %d: %v, %v, want %v, %v", seed, got, ok, want, has)
		}
		if ok {
			found++
		}
	}
	if found < 20 || found > 280 {
		t.Error("the test finds all or nothing:", found)
	}
}

func TestP36_4PointsAreAWay(t *testing.T) {
	programs := [][]api.Call{{{Kind: api.Set, Id: "a", Policy: policy.Usual()}, ingest("a", 1, 250)}, {{Kind: api.Snap}, {Kind: api.Look, Id: "a", Handle: 1, Tick: 9, Value: 9}}}
	for seed := range int64(60) {
		r := rand.New(rand.NewSource(seed))
		picks := make([]int, 200)
		for i := range picks {
			picks[i] = r.Intn(3)
		}
		o, _ := engine.Run(two, programs, 1, picks)
		ops := Of(o.Events)
		way := make([]int, len(ops))
		for i := range way {
			way[i] = i
		}
		if _, ok := Find(two, ops); !Is(two, ops, way) || !ok {
			t.Fatalf("seed %d: %+v", seed, ops)
		}
	}
}
