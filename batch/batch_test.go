package batch

import (
	"math"
	"math/rand"
	"reflect"
	"slices"
	"testing"

	"flywheel/api"
	"flywheel/flat"
	"flywheel/policy"
)

func ingest(id string, tick, value int64) api.Call {
	return api.Call{Kind: api.Ingest, Id: id, Tick: tick, Value: value}
}

func given() []api.Call {
	return []api.Call{ingest("b", 2, 1), ingest("a", 1, 5), ingest("b", 1, 3), ingest("a", 1, 7), ingest("c", 1, 1), ingest("b", 2, 9), ingest("a.", 0, 0)}
}

var wrong = []api.Call{{}, {Kind: api.Snap}, {Kind: api.Read, Id: "a"}, {Kind: 9}, ingest("A", 1, 1), ingest("a", -1, 1), ingest("a", 1, -1), {Kind: api.Set, Id: "a", Policy: policy.Usual()}}

func TestP53_1Fine(t *testing.T) {
	if !Fine(nil) || !Fine(given()) {
		t.Error("samples that may be")
	}
	for _, c := range wrong {
		for _, l := range [][]api.Call{{c}, append(given(), c), append([]api.Call{c}, given()...)} {
			if Fine(l) || len(Last(l)) != 0 || len(Sort(l)) != 0 {
				t.Errorf("%+v", c)
			}
			if got := Parts(l, 3); len(got) != 3 || len(slices.Concat(got...)) != 0 {
				t.Errorf("%+v: %v", c, got)
			}
		}
	}
}

func TestP53_2LastAndSort(t *testing.T) {
	l := given()
	if got := Last(l); !slices.Equal(got, []api.Call{ingest("b", 1, 3), ingest("a", 1, 7), ingest("c", 1, 1), ingest("b", 2, 9), ingest("a.", 0, 0)}) || len(Last(nil)) != 0 {
		t.Error(got)
	}
	if got := Sort(l); !slices.Equal(got, []api.Call{ingest("a", 1, 7), ingest("a.", 0, 0), ingest("b", 1, 3), ingest("b", 2, 9), ingest("c", 1, 1)}) || len(Sort(nil)) != 0 {
		t.Error(got)
	}
	if !slices.Equal(l, given()) {
		t.Error("what was given is changed")
	}
	full := api.Call{Kind: api.Ingest, Id: "a", Tick: 1, Value: 2, Handle: 3, Policy: policy.Usual()}
	if got := Last([]api.Call{full}); !slices.Equal(got, []api.Call{ingest("a", 1, 2)}) || !slices.Equal(Sort([]api.Call{full}), got) || !slices.Equal(Parts([]api.Call{full}, 1)[0], got) {
		t.Error(got)
	}
	if got := Last([]api.Call{ingest("a", 1, 5), full}); len(got) != 1 || got[0].Value != 2 {
		t.Error(got)
	}
}

func TestP53_3Parts(t *testing.T) {
	want := [][]api.Call{{ingest("a", 1, 7), ingest("b", 1, 3), ingest("b", 2, 9)}, {ingest("a.", 0, 0), ingest("c", 1, 1)}}
	if got := Parts(given(), 2); !reflect.DeepEqual(got, want) {
		t.Error(got)
	}
	for _, n := range []int{0, -1, 33, math.MaxInt64, math.MinInt64} {
		if len(Parts(given(), n)) != 0 {
			t.Error(n)
		}
	}
	if got := Parts(given(), 32); len(got) != 32 || len(got[3]) != 1 || len(got[4]) != 0 || len(Parts(nil, 5)) != 5 || !slices.Equal(Parts(given(), 1)[0], Sort(given())) {
		t.Error("as many lists as were asked for")
	}
}

func TestP53_4TheSameSamples(t *testing.T) {
	for seed := range int64(60) {
		r := rand.New(rand.NewSource(seed))
		c := api.Config{Stripes: 2, Samples: 1 + r.Intn(4), Loads: 9, History: 1}
		there := flat.New(c)
		var l []api.Call
		for range r.Intn(30) {
			x := ingest([]string{"a", "b", "c", "d"}[r.Intn(4)], int64(r.Intn(7)), int64(r.Intn(99)))
			l = append(l, x)
			if r.Intn(3) == 0 {
				there.Do(ingest(x.Id, int64(r.Intn(7)), 5))
			}
		}
		parts := Parts(l, 3)
		slices.Reverse(parts)
		var want *flat.Map
		for i, way := range [][]api.Call{l, Last(l), Sort(l), slices.Concat(Parts(l, 3)...), slices.Concat(parts...)} {
			m := there.Twin()
			for _, x := range way {
				m.Do(x)
			}
			if i == 0 {
				want = m
			}
			for _, id := range want.Ids() {
				x, _ := want.Load(id)
				y, _ := m.Load(id)
				if !slices.Equal(x.Samples, y.Samples) {
					t.Fatal(seed, i, id)
				}
			}
		}
	}
}
