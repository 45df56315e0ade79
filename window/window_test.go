package window

import (
	"math"
	"slices"
	"testing"

	"flywheel/api"
)

const most, least = math.MaxInt64, math.MinInt64

func samples(pairs ...int64) []api.Sample {
	var l []api.Sample
	for i := 0; i < len(pairs); i += 2 {
		l = append(l, api.Sample{Tick: pairs[i], Value: pairs[i+1]})
	}
	return l
}

func TestP9_1CutAndValues(t *testing.T) {
	l := samples(5, 50, 1, -10, 3, 30, least, 1, most, 2)
	kept := slices.Clone(l)
	for _, c := range []struct {
		from, to int64
		want     []api.Sample
	}{{1, 5, samples(5, 50, 1, -10, 3, 30)}, {3, 3, samples(3, 30)}, {5, 1, nil}, {least, most, l}, {2, 2, nil}, {4, most, samples(5, 50, most, 2)}} {
		if got := Cut(l, c.from, c.to); !slices.Equal(got, c.want) {
			t.Errorf("Cut from %d to %d: %v", c.from, c.to, got)
		}
	}
	Cut(l, least, most)[0].Tick = 99
	if !slices.Equal(l, kept) {
		t.Error("Cut shares memory")
	}
	if got := Values(l); !slices.Equal(got, []int64{50, 0, 30, 1, 2}) || len(Values(nil)) != 0 {
		t.Error(got)
	}
}

func TestP9_2Of(t *testing.T) {
	for _, c := range []struct {
		l    []api.Sample
		want api.Stat
	}{
		{nil, api.Stat{}},
		{samples(1, 3, 2, 4), api.Stat{Count: 2, Sum: 7, Least: 3, Most: 4, Mean: 4}},
		{samples(9, 0), api.Stat{Count: 1}},
		{samples(9, -5, 1, 5, 1, 5), api.Stat{Count: 3, Sum: 10, Most: 5, Mean: 4}},
		{samples(1, most, 2, most), api.Stat{Count: 2, Sum: most, Least: most, Most: most, Mean: most}},
	} {
		if got := Of(c.l); got != c.want {
			t.Errorf("Of(%v) = %+v", c.l, got)
		}
	}
}

func TestP9_2FromAndAt(t *testing.T) {
	for _, c := range [][3]int64{{10, 3, 8}, {10, 1, 10}, {10, 0, 11}, {10, -5, 16}, {least, 5, least + 1}, {most, 0, most}, {most, -3, most}, {0, most, -most + 1}, {-5, most, least + 1}} {
		if got := From(c[0], c[1]); got != c[2] {
			t.Errorf("From(%d, %d) = %d, want %d", c[0], c[1], got, c[2])
		}
	}
	l := samples(1, 10, 2, 20, 3, 30, 4, 40)
	if got := At(l, 3, 2); got != (api.Stat{Count: 2, Sum: 50, Least: 20, Most: 30, Mean: 25}) {
		t.Error(got)
	}
	if At(l, 3, 0) != (api.Stat{}) || At(nil, 3, 9) != (api.Stat{}) || At(l, 9, 2) != (api.Stat{}) || At(l, 9, most).Count != 4 {
		t.Error("windows at the edges")
	}
}

func TestP9_3Merge(t *testing.T) {
	a := api.Stat{Count: 1, Sum: 3, Least: 3, Most: 3, Mean: 3}
	b := api.Stat{Count: 2, Sum: 9, Least: 4, Most: 5, Mean: 5}
	none := api.Stat{Count: 0, Sum: 77, Least: 7, Most: 7, Mean: 7}
	below := api.Stat{Count: -1, Sum: 66}
	for _, c := range []struct{ a, b, want api.Stat }{
		{a, b, api.Stat{Count: 3, Sum: 12, Least: 3, Most: 5, Mean: 4}}, {none, b, b}, {a, none, a}, {none, below, below}, {below, none, none},
		{api.Stat{Count: most, Sum: most, Least: 1, Most: 2}, a, api.Stat{Count: most, Sum: most, Least: 1, Most: 3, Mean: 1}},
		{api.Stat{Count: 1, Sum: -8, Least: -8, Most: -8}, a, api.Stat{Count: 2, Sum: -5, Least: -8, Most: 3, Mean: -2}},
	} {
		if got := Merge(c.a, c.b); got != c.want {
			t.Errorf("Merge(%+v, %+v) = %+v", c.a, c.b, got)
		}
	}
}

func TestP9_3Each(t *testing.T) {
	l := samples(1, 10, 2, 20, 3, 30, 4, 40, 5, 50)
	got := Each(l, 5, 2, 4)
	want := []api.Stat{At(l, 5, 2), At(l, 3, 2), At(l, 1, 2), At(l, -1, 2)}
	if !slices.Equal(got, want) {
		t.Error(got)
	}
	for _, n := range []int{0, -1, least} {
		if len(Each(l, 5, 2, n)) != 0 {
			t.Error(n)
		}
	}
	if len(Each(l, 5, 2, 256)) != 256 || len(Each(l, 5, 2, 257)) != 256 || len(Each(nil, 5, 2, most)) != 256 {
		t.Error("no more than 256")
	}
	if got := Each(l, 3, 0, 2); !slices.Equal(got, []api.Stat{{}, {}}) {
		t.Error(got)
	}
	if got := Each(samples(most, 7), most, 0, 2); got[0].Count != 1 || got[1] != got[0] {
		t.Error("a width of 0 moves nothing:", got)
	}
	for _, x := range Each(samples(4, 1, 5, 2), 3, -2, 3) {
		if x != At(samples(4, 1, 5, 2), 3, -2) {
			t.Error("a width below 0 moves nothing")
		}
	}
	if got := Each(samples(least, 1), least+1, 5, 3); got[2] != At(samples(least, 1), least, 5) {
		t.Error(got)
	}
}

func TestP9_4OrderAndParts(t *testing.T) {
	l := samples(5, 50, 1, 11, 3, 30, 2, 0)
	turned := slices.Clone(l)
	slices.Reverse(turned)
	if Of(l) != Of(turned) {
		t.Error("the order counts")
	}
	for i := range l {
		if Merge(Of(l[:i]), Of(l[i:])) != Of(l) {
			t.Errorf("cut at %d", i)
		}
	}
}
