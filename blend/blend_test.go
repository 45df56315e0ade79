package blend

import (
	"math"
	"slices"
	"testing"

	"flywheel/api"
)

const most, least = math.MaxInt64, math.MinInt64

func samples(pairs ...int64) []api.Sample {
	var l []api.Sample
	for i := 0; i < len(pairs); i += 2 {
		l = append(l, api.Sample{Tick: pairs[i], Value: pairs[i+1]})
	}
	return l
}

func TestP46_1AndP46_4Merge(t *testing.T) {
	a, b, c := samples(5, 1, 1, 2, 5, 10), samples(1, 3, least, 4), samples(most, -5, 7, -1, 1, -9, 5, most)
	want := samples(least, 4, 1, 5, 5, most, 7, 0, most, 0)
	for _, parts := range [][][]api.Sample{{a, b, c}, {c, b, a}, {b, nil, a, c}, {slices.Concat(c, a, b)}} {
		if got := Merge(parts...); !slices.Equal(got, want) {
			t.Error(got)
		}
	}
	if len(Merge()) != 0 || len(Merge(nil, nil)) != 0 || !slices.Equal(Merge(samples(1, 2), samples(1, 3)), samples(1, 5)) {
		t.Error("merges")
	}
}

func TestP46_2Start(t *testing.T) {
	for _, c := range [][3]int64{{-1, 10, -10}, {0, 10, 0}, {9, 10, 0}, {10, 10, 10}, {-10, 10, -10}, {-11, 10, -20}, {7, 0, 7}, {7, -5, 7}, {7, 1, 7}, {least, 10, least}, {most, 10, most - 7}, {5, most, 0}, {-5, most, -most}, {least, most, least}} {
		if got := Start(c[0], c[1]); got != c[2] {
			t.Errorf("Start(%d, %d) = %d", c[0], c[1], got)
		}
	}
}

func TestP46_2AndP46_4Thin(t *testing.T) {
	l := samples(25, 7, 11, 1, 12, 2, -1, -8, -2, 3, 19, 3, 11, 5)
	for _, c := range []struct {
		width int64
		want  []api.Sample
	}{{10, samples(-10, 2, 10, 3, 20, 7)}, {0, samples(-2, 3, -1, 0, 11, 3, 12, 2, 19, 3, 25, 7)}, {-1, samples(-2, 3, -1, 0, 11, 3, 12, 2, 19, 3, 25, 7)}, {1000, samples(-1000, 2, 0, 4)}} {
		got := Thin(l, c.width)
		if !slices.Equal(got, c.want) || !slices.Equal(Thin(got, c.width), got) {
			t.Errorf("by %d: %v", c.width, got)
		}
	}
	if len(Thin(nil, 5)) != 0 || !slices.Equal(Thin(samples(11, 1, 12, 2), 10), samples(10, 2)) {
		t.Error("Thin")
	}
}

func TestP46_3Fill(t *testing.T) {
	l := samples(5, 50, 2, 20, 5, 5, 9, -1)
	for i, c := range []struct {
		from, step int64
		n          int
		want       []api.Sample
	}{
		{0, 2, 6, samples(0, 0, 2, 20, 4, 20, 6, 55, 8, 55, 10, 0)}, {5, 1, 1, samples(5, 55)}, {0, 0, 3, nil}, {0, -1, 3, nil}, {0, 1, 0, nil}, {0, 1, -1, nil}, {0, 1, 257, nil}, {most, 5, 2, samples(most, 0, most, 0)}, {least, most, 3, samples(least, 0, -1, 0, -1, 0)}, {6, most, 2, samples(6, 55, most, 0)},
	} {
		if got := Fill(l, c.from, c.step, c.n); !slices.Equal(got, c.want) {
			t.Errorf("%d: %v", i, got)
		}
	}
	if len(Fill(nil, 0, 1, 256)) != 256 {
		t.Error("256 samples")
	}
}

func TestP46_3Gaps(t *testing.T) {
	l := samples(10, 1, 3, 1, 0, 1, 10, 1, 11, -1)
	for width, want := range map[int64]int{0: 3, 1: 2, 2: 2, 3: 1, 6: 1, 7: 0, -1: 3, least: 3, most: 0} {
		if got := Gaps(l, width); got != want {
			t.Errorf("wider than %d: %d", width, got)
		}
	}
	if Gaps(nil, 0) != 0 || Gaps(samples(5, 1), 0) != 0 || Gaps(samples(least, 1, most, 1), most) != 0 || Gaps(samples(least, 1, most, 1), most-1) != 1 {
		t.Error("Gaps")
	}
}
