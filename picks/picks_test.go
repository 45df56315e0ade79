package picks

import (
	"math"
	"slices"
	"testing"

	"flywheel/api"
)

func TestP28_1Round(t *testing.T) {
	for _, c := range []struct {
		n, long int
		want    []int
	}{{3, 5, []int{0, 1, 2, 0, 1}}, {1, 3, []int{0, 0, 0}}, {3, 0, nil}, {3, -1, nil}, {0, 2, []int{-1, -1}}, {-5, 1, []int{-1}}, {100, 2, []int{0, 1}}, {2, math.MinInt64, nil}} {
		if got := Round(c.n, c.long); !slices.Equal(got, c.want) {
			t.Errorf("Round(%d, %d) = %v", c.n, c.long, got)
		}
	}
	if len(Round(2, api.MaxPicks)) != 1<<20 || len(Round(2, math.MaxInt64)) != 1<<20 {
		t.Error("no more than 2^20")
	}
}

func TestP28_1Weave(t *testing.T) {
	for _, c := range []struct {
		n, long int
		raw     []int
		want    []int
	}{
		{2, 4, []int{1}, []int{1, 0, 1, 0}}, {3, 7, nil, []int{0, 1, 2, 0, 1, 2, 0}}, {3, 6, []int{1, 1, 0, -1, 5}, []int{1, 2, 0, 2, 1, 0}}, {3, 0, nil, nil}, {3, -4, nil, nil},
		{0, 5, nil, nil}, {33, 5, nil, nil}, {-1, 5, nil, nil}, {1, 3, []int{9}, []int{0, 0, 0}}, {4, 4, []int{math.MinInt64, math.MaxInt64}, []int{0, 2, 1, 3}},
	} {
		if got := Weave(c.n, c.long, c.raw); !slices.Equal(got, c.want) {
			t.Errorf("Weave(%d, %d, %v) = %v, want %v", c.n, c.long, c.raw, got, c.want)
		}
	}
	if len(Weave(32, 40, nil)) != 40 || len(Weave(2, math.MaxInt64, nil)) != 1<<20 {
		t.Error("as many picks")
	}
}

func TestP28_4AWeaveIsEven(t *testing.T) {
	for n := 1; n <= 32; n++ {
		raw := []int{n, -7, 3, 1000003, 5, 0, 11, 2}
		counts := Counts(Weave(n, 3*n+n/2, raw), n)
		if slices.Max(counts)-slices.Min(counts) > 1 {
			t.Errorf("%d tasks: %v", n, counts)
		}
	}
}

func TestP28_2Counts(t *testing.T) {
	for _, c := range []struct {
		picks []int
		n     int
		want  []int
	}{{[]int{0, 1, 5, -1, 3}, 3, []int{2, 1, 2}}, {nil, 2, []int{0, 0}}, {[]int{1}, 0, nil}, {[]int{1}, 33, nil}, {[]int{1}, -1, nil}, {[]int{7, 8}, 1, []int{2}}} {
		if got := Counts(c.picks, c.n); !slices.Equal(got, c.want) {
			t.Errorf("Counts(%v, %d) = %v", c.picks, c.n, got)
		}
	}
	if len(Counts(nil, 32)) != 32 {
		t.Error("32 tasks")
	}
}

func TestP28_2Gap(t *testing.T) {
	for _, c := range []struct {
		picks   []int
		n, task int
		want    int
	}{
		{[]int{0, 1, 0}, 2, 1, 2}, {[]int{0, 1, 0}, 2, 0, 2}, {nil, 2, 0, 1}, {[]int{0, 0, 0}, 2, 1, 4}, {[]int{0, 0, 0}, 2, 0, 1}, {[]int{1, 0, 0, 0, 1, 1}, 2, 1, 4}, {[]int{3, 1, 0, 0}, 2, 1, 3},
		{[]int{0, 0, 3}, 2, 1, 3}, {[]int{5, 5}, 2, 7, 3}, {[]int{-1, 0}, 2, 1, 2}, {[]int{4, 4}, 0, -1, 1}, {[]int{4, 4}, 0, 0, 3},
	} {
		if got := Gap(c.picks, c.n, c.task); got != c.want {
			t.Errorf("Gap(%v, %d, %d) = %d, want %d", c.picks, c.n, c.task, got, c.want)
		}
	}
}

func TestP28_3TextAndParse(t *testing.T) {
	for s, l := range map[string][]int{"": nil, "0": {0}, "1 -2 3": {1, -2, 3}, "9223372036854775807 -9223372036854775808": {math.MaxInt64, math.MinInt64}} {
		if Text(l) != s {
			t.Errorf("Text(%v) = %q", l, Text(l))
		}
		if got, ok := Parse(s); !slices.Equal(got, l) || !ok {
			t.Errorf("Parse(%q) = %v, %v", s, got, ok)
		}
	}
	for _, s := range []string{" ", "01", "1 ", " 1", "1  2", "-0", "+1", "1\n", "1\t2", "x", "1 x", "9223372036854775808", "-", "1,2"} {
		if l, ok := Parse(s); len(l) != 0 || ok {
			t.Errorf("Parse(%q) = %v, %v", s, l, ok)
		}
	}
}
