package tune

import (
	"math"
	"reflect"
	"slices"
	"testing"

	"flywheel/api"
	"flywheel/policy"
	"flywheel/trial"
)

const most, least = math.MaxInt64, math.MinInt64

func loads(values ...int64) []api.Sample {
	var l []api.Sample
	for i, v := range values {
		l = append(l, api.Sample{Tick: int64(i), Value: v})
	}
	return l
}

func TestP45_1AndP45_4With(t *testing.T) {
	p := policy.Usual()
	want := []api.Policy{p, p, p, p, p, p, p, p}
	want[Min].Min, want[Max].Max, want[Target].Target, want[Tolerance].Tolerance, want[Window].Window, want[Hold].Hold = -9, -9, -9, -9, -9, -9
	for field, x := range want {
		if got := With(p, field, -9); got != x {
			t.Errorf("%d: %+v", field, got)
		}
	}
	if With(p, -1, 5) != p || With(p, most, 5) != p || With(p, least, 5) != p {
		t.Error("no field")
	}
	if Min != 1 || Max != 2 || Target != 3 || Tolerance != 4 || Window != 5 || Hold != 6 {
		t.Error("the fields")
	}
}

func TestP45_1Ladder(t *testing.T) {
	for _, c := range []struct {
		from, to int64
		n        int
		want     []int64
	}{
		{0, 10, 3, []int64{0, 5, 10}}, {0, 10, 4, []int64{0, 3, 6, 10}}, {0, 10, 1, []int64{0}}, {5, 5, 3, []int64{5}}, {0, 2, 5, []int64{0, 2}}, {0, 3, 2, []int64{0, 3}}, {-4, 4, 3, []int64{-4, 0, 4}}, {1, 0, 3, nil}, {0, 10, 0, nil}, {0, 10, -1, nil}, {0, 10, 257, nil},
		{least, most, 2, []int64{least, most}}, {least, most, 3, []int64{least, least + most/2, most}}, {most - 1, most, 4, []int64{most - 1, most}}, {5, 5, 1, []int64{5}},
	} {
		if got := Ladder(c.from, c.to, c.n); !slices.Equal(got, c.want) {
			t.Errorf("Ladder(%d, %d, %d) = %v", c.from, c.to, c.n, got)
		}
	}
	if len(Ladder(0, 1000, 256)) != 256 {
		t.Error("256 numbers")
	}
}

func TestP45_2Best(t *testing.T) {
	p := policy.Usual()
	l := loads(100, 250, 900, 900, 50, 1500, 20, 20, 20)
	for _, c := range []struct {
		field  int
		values []int64
	}{{Hold, []int64{0, 1, 3, 9}}, {Max, []int64{5, 0, 20, 10, 20, 15}}, {Target, []int64{-1, 10, 300, 100}}, {Window, []int64{1, 2, 5}}, {99, []int64{7, 8}}, {Tolerance, []int64{1000, 999, 0, 500}}} {
		value, r, err := Best(p, c.field, c.values, l, 4, 4)
		if err != api.OK || !slices.Contains(c.values, value) {
			t.Fatal(c, value, err)
		}
		if own, _ := trial.Run(With(p, c.field, value), l, 4, 4); !reflect.DeepEqual(own, r) {
			t.Error(c, "another one's result")
		}
		before := true
		for _, x := range c.values {
			before = before && x != value
			other, err := trial.Run(With(p, c.field, x), l, 4, 4)
			if err == api.OK && (trial.Cmp(other, r) < 0 || before && trial.Cmp(other, r) == 0) {
				t.Errorf("%+v: %d is better than %d", c, x, value)
			}
		}
	}
	if value, _, err := Best(p, 99, []int64{7, 8}, l, 4, 4); value != 7 || err != api.OK {
		t.Error("of several that are as good the first one", value, err)
	}
	for i, c := range []struct {
		p             api.Policy
		values        []int64
		samples, room int
		want          api.Errno
	}{{p, nil, 4, 4, api.ErrNone}, {p, []int64{0, -5}, 4, 4, api.ErrNone}, {p, []int64{0, 5}, 0, 4, api.ErrArg}, {p, []int64{0}, 0, 4, api.ErrNone}, {p, []int64{5}, 4, 65, api.ErrArg}, {api.Policy{}, []int64{1, 5}, 0, 0, api.ErrNone}} {
		if value, r, err := Best(c.p, Max, c.values, l, c.samples, c.room); value != 0 || !reflect.DeepEqual(r, trial.Result{}) || err != c.want {
			t.Error(i, value, err)
		}
	}
}

func TestP45_3Cheapest(t *testing.T) {
	p := policy.Usual()
	p.Window, p.Tolerance = 1, 0
	for i, c := range []struct {
		turn func(p *api.Policy)
		most int64
		l    []api.Sample
		room int
		want int64
	}{
		{nil, 1000, loads(100, 250, 700), 4, 7}, {nil, 7, loads(100, 250, 700), 4, 7}, {nil, 6, loads(100, 250, 700), 4, 0}, {nil, 1001, loads(100), 4, 0}, {nil, 0, loads(0), 4, 0}, {nil, -5, loads(0), 4, 0}, {nil, 1000, loads(100001), 4, 0}, {nil, 1000, loads(100000), 4, 1000},
		{func(p *api.Policy) { p.Min = 3 }, 10, loads(100), 4, 3}, {func(p *api.Policy) { p.Min = 0 }, 10, loads(0), 4, 1}, {func(p *api.Policy) { p.Min = 9 }, 8, loads(0), 4, 0}, {func(p *api.Policy) { p.Target = 0 }, 10, loads(0), 4, 0}, {nil, 1, nil, 4, 1}, {func(p *api.Policy) { p.Max = 0 }, 10, loads(100), 4, 0}, {func(p *api.Policy) { p.Max = 1<<30 + 1 }, 10, loads(100), 4, 0}, {nil, 10, nil, 4, 1}, {nil, 10, loads(0), 0, 0},
	} {
		q := p
		if c.turn != nil {
			c.turn(&q)
		}
		if n, ok := Cheapest(q, c.most, c.l, c.room, 4); n != c.want || ok != (c.want > 0) {
			t.Errorf("%d: %d, %v", i, n, ok)
		}
	}
}
