package differ

import (
	"slices"
	"testing"

	"flywheel/api"
	"flywheel/flat"
	"flywheel/policy"
)

var config = api.Config{Stripes: 1, Samples: 4, Loads: 9, History: 2}

func base() flat.Load {
	return flat.Load{Samples: []api.Sample{{Tick: 1, Value: 2}}, Past: []api.Advice{{Tick: 1}}, Policy: policy.Usual(), Ruled: true}
}

func TestP47_1Parts(t *testing.T) {
	for i, c := range []struct {
		turn func(x *flat.Load)
		want []string
	}{
		{func(x *flat.Load) {}, nil}, {func(x *flat.Load) { x.Samples[0].Value++ }, []string{"samples"}}, {func(x *flat.Load) { x.Samples = nil }, []string{"samples"}}, {func(x *flat.Load) { x.Policy.Hold++ }, []string{"policy"}}, {func(x *flat.Load) { x.Ruled = false }, []string{"policy"}},
		{func(x *flat.Load) { x.Past[0].Why++ }, []string{"past"}}, {func(x *flat.Load) { x.Past = append(x.Past, api.Advice{}) }, []string{"past"}}, {func(x *flat.Load) { *x = flat.Load{} }, []string{"samples", "policy", "past"}},
		{func(x *flat.Load) { x.Past, x.Ruled = nil, false }, []string{"policy", "past"}},
	} {
		y := base()
		c.turn(&y)
		if !slices.Equal(Parts(base(), y), c.want) || !slices.Equal(Parts(y, base()), c.want) {
			t.Error(i, Parts(base(), y))
		}
	}
	if len(Parts(flat.Load{Samples: []api.Sample{}}, flat.Load{})) != 0 {
		t.Error("a nil list and an empty one are the same")
	}
}

func TestP47_2AndP47_4Lines(t *testing.T) {
	a := flat.New(config)
	ingest := func(m *flat.Map, id string, tick int64) {
		m.Do(api.Call{Kind: api.Ingest, Id: id, Tick: tick, Value: 5})
	}
	ingest(a, "b", 1)
	ingest(a, "d", 1)
	b := a.Twin()
	if len(Lines(a, b)) != 0 || len(Lines(a, a)) != 0 || !Same(a, b) || !Same(a, a) {
		t.Error("a map and its twin")
	}
	ingest(b, "a", 1)
	ingest(b, "b.", 1)
	ingest(b, "d", 2)
	b.Note("d", api.Advice{})
	b.Do(api.Call{Kind: api.Snap})
	ingest(a, "c", 1)
	if got := Lines(a, b); !slices.Equal(got, []string{"+ a", "+ b.", "- c", "~ d samples past"}) || Same(a, b) {
		t.Errorf("%q", got)
	}
	if got := Lines(b, a); !slices.Equal(got, []string{"- a", "- b.", "+ c", "~ d samples past"}) || Same(b, a) {
		t.Errorf("%q", got)
	}
	if got := Lines(nil, a); !slices.Equal(got, []string{"+ b", "+ c", "+ d"}) || !Same(nil, nil) || !Same(nil, flat.New(config)) || !slices.Equal(Lines(a, &flat.Map{}), []string{"- b", "- c", "- d"}) {
		t.Errorf("%q", got)
	}
}

func TestP47_3Fresh(t *testing.T) {
	x := flat.Load{Samples: []api.Sample{{Tick: 1, Value: 1}, {Tick: 2, Value: 2}}}
	y := flat.Load{Samples: []api.Sample{{Tick: 3, Value: 1}, {Tick: 2, Value: 2}, {Tick: 1, Value: 2}, {Tick: 3, Value: 1}}}
	want := []api.Sample{{Tick: 3, Value: 1}, {Tick: 1, Value: 2}, {Tick: 3, Value: 1}}
	if got := Fresh(x, y); !slices.Equal(got, want) || len(Fresh(y, y)) != 0 || len(Fresh(x, flat.Load{})) != 0 || !slices.Equal(Fresh(flat.Load{}, x), x.Samples) {
		t.Error(got)
	}
	Fresh(flat.Load{}, x)[0].Tick = 77
	if x.Samples[0].Tick != 1 || len(y.Samples) != 4 {
		t.Error("Fresh shares memory")
	}
}
