package trend

import (
	"math"
	"slices"
	"testing"

	"flywheel/api"
)

const most, least = math.MaxInt64, math.MinInt64

func samples2(pairs ...int64) []api.Sample {
	var l []api.Sample
	for i := 0; i < len(pairs); i += 2 {
		l = append(l, api.Sample{Tick: pairs[i], Value: pairs[i+1]})
	}
	return l
}

func many(n int) []api.Sample {
	var l []api.Sample
	for i := range int64(n) {
		l = append(l, api.Sample{Tick: i, Value: i * i})
	}
	return l
}

func TestP52_1Of(t *testing.T) {
	for i, c := range []struct {
		l    []api.Sample
		want Line
		ok   bool
	}{
		{nil, Line{}, false}, {samples2(-1, 5, 5, -1), Line{}, false}, {samples2(7, 9), Line{7, 9, 0, 1}, true}, {samples2(0, 0), Line{0, 0, 0, 1}, true}, {samples2(0, 0, 10, 20), Line{10, 20, 20, 10}, true}, {samples2(10, 20, 0, 0), Line{10, 20, 20, 10}, true},
		{samples2(0, 9, 5, 100, 10, 3), Line{10, 3, -6, 10}, true}, {samples2(0, 1, 3, 2, 10, 5, 15, 8), Line{12, 7, 5, 11}, true}, {samples2(0, 1, 3, 2, 4, 77, 10, 5, 15, 8), Line{12, 7, 5, 11}, true}, {samples2(0, 1, 0, 7, -3, 9), Line{0, 7, 0, 1}, true},
		{samples2(0, most, most, 0), Line{most, 0, -most, most}, true}, {samples2(0, 0, most, most), Line{most, most, most, most}, true},
	} {
		if got, ok := Of(c.l); got != c.want || ok != c.ok {
			t.Errorf("%d: %+v, %v", i, got, ok)
		}
	}
	a, _ := Of(many(300))
	b, _ := Of(many(300)[44:])
	if c, _ := Of(many(300)[43:]); a != b || a != c || a.Run != 128 {
		t.Error("the last 256 samples", a, b)
	}
}

func TestP52_2AtAndUp(t *testing.T) {
	x := Line{10, 20, 20, 10}
	for tick, want := range map[int64]int64{15: 30, 10: 20, 5: 10, 0: 0, -5: 0, 11: 22, least: 0, most: 922337203685477600} {
		if got := x.At(tick); got != want {
			t.Errorf("At(%d) = %d, want %d", tick, got, want)
		}
	}
	if got := (Line{0, 20, -3, 2}).At(1); got != 18 {
		t.Error("rounded down:", got)
	}
	for _, x := range []Line{{10, 20, 20, 0}, {10, 20, 20, -1}, {10, 20, 20, least}, {10, -20, 0, 5}} {
		if got := x.At(10); got != 0 {
			t.Error(x, got)
		}
	}
	if (Line{0, most, most, 1}).At(most) != most || (Line{most, 0, least, 1}).At(least) != most {
		t.Error("ends")
	}
	for _, c := range []struct {
		x    Line
		want bool
	}{{Line{Rise: 1, Run: 1}, true}, {Line{Rise: 0, Run: 1}, false}, {Line{Rise: 1, Run: 0}, false}, {Line{Rise: -1, Run: 1}, false}, {Line{Rise: 1, Run: -1}, false}, {Line{}, false}} {
		if c.x.Up() != c.want {
			t.Error(c)
		}
	}
}

func TestP52_3AheadAndWith(t *testing.T) {
	l := samples2(10, 20, 0, 0)
	for i, c := range []struct {
		l     []api.Sample
		ticks int64
		want  api.Sample
		ok    bool
	}{
		{l, 5, api.Sample{Tick: 15, Value: 30}, true}, {l, 0, api.Sample{Tick: 10, Value: 20}, true}, {l, -1, api.Sample{}, false}, {nil, 5, api.Sample{}, false}, {samples2(-1, 1), 5, api.Sample{}, false}, {samples2(7, 9), 100, api.Sample{Tick: 107, Value: 9}, true}, {samples2(7, 9), most, api.Sample{Tick: most, Value: 9}, true}, {samples2(0, 30, 10, 10), 9, api.Sample{Tick: 19}, true},
	} {
		got, ok := Ahead(c.l, c.ticks)
		if got != c.want || ok != c.ok {
			t.Errorf("%d: %v, %v", i, got, ok)
		}
	}
	if got := With(l, 5); !slices.Equal(got, samples2(0, 0, 10, 20, 15, 30)) {
		t.Error(got)
	}
	if got := With(l, -1); !slices.Equal(got, samples2(0, 0, 10, 20)) {
		t.Error(got)
	}
	if got := With(samples2(0, 10, 1, 20, 2, 90), 0); !slices.Equal(got, samples2(0, 10, 1, 20, 2, 90)) {
		t.Error(got)
	}
	if got := With(samples2(0, 10, 1, 20, 2, 30, 3, 80), 0); !slices.Equal(got, samples2(0, 10, 1, 20, 2, 30, 3, 75)) {
		t.Error("the last tick has the line's value:", got)
	}
	if len(With(nil, 5)) != 0 || !slices.Equal(l, samples2(10, 20, 0, 0)) {
		t.Error("With")
	}
	if got := With(many(256), 7); len(got) != 256 || got[0].Tick != 1 || got[255].Tick != 262 {
		t.Error("room for 256")
	}
}

func TestP52_4OneValue(t *testing.T) {
	for n := 1; n < 40; n++ {
		var l []api.Sample
		for i := range int64(n) {
			l = append(l, api.Sample{Tick: i * i, Value: 42})
		}
		x, ok := Of(l)
		if !ok || x.Run < 1 || x.Up() {
			t.Fatal(x, ok)
		}
		for _, tick := range []int64{least, -1, 0, 7, most} {
			if x.At(tick) != 42 {
				t.Fatal(x, tick)
			}
		}
	}
}
