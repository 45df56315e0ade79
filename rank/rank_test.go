package rank

import (
	"math"
	"slices"
	"testing"

	"flywheel/api"
)

func values(l ...int64) []api.Sample {
	var s []api.Sample
	for i, v := range l {
		s = append(s, api.Sample{Tick: int64(i), Value: v})
	}
	return s
}

func TestP10_1Sorted(t *testing.T) {
	given := values(3, -5, 2, 3, 0)
	if got := Sorted(given); !slices.Equal(got, []int64{0, 0, 2, 3, 3}) || len(Sorted(nil)) != 0 {
		t.Error(got)
	}
	if !slices.Equal(given, values(3, -5, 2, 3, 0)) {
		t.Error("Sorted changed what it was given")
	}
}

func TestP10_1Nth(t *testing.T) {
	l := values(4, 2, 3, 1)
	for share, want := range map[int]int64{0: 1, 1: 1, 250: 1, 251: 2, 500: 2, 501: 3, 750: 3, 751: 4, 999: 4, 1000: 4} {
		if got, ok := Nth(l, share); got != want || !ok {
			t.Errorf("Nth of %d: %d, %v", share, got, ok)
		}
	}
	for _, share := range []int{-1, 1001, math.MinInt64, math.MaxInt64} {
		if got, ok := Nth(l, share); got != 0 || ok {
			t.Errorf("Nth of %d: %d, %v", share, got, ok)
		}
	}
	if got, ok := Nth(nil, 500); got != 0 || ok {
		t.Error("Nth of none")
	}
	if got, ok := Nth(values(-7, 5), 0); got != 0 || !ok {
		t.Error("a value below 0 counts as 0")
	}
}

func TestP10_2Share(t *testing.T) {
	l := values(4, 2, 3, 1)
	for value, want := range map[int64]int{0: 0, 1: 250, 3: 750, 4: 1000, 5: 1000, -1: 0, math.MaxInt64: 1000, math.MinInt64: 0} {
		if got := Share(l, value); got != want {
			t.Errorf("Share of %d: %d", value, got)
		}
	}
	if Share(nil, 5) != 0 || Share(values(1, 2, 2), 1) != 333 || Share(values(1, 1, 2), 1) != 666 || Share(values(-5, 3), 0) != 500 || Share(values(-5, 3), -5) != 0 {
		t.Error("shares")
	}
}

func TestP10_3Top(t *testing.T) {
	l := values(3, -5, 7, 3, 7, -9)
	order := []api.Sample{l[2], l[4], l[0], l[3], l[1], l[5]}
	for n := range 9 {
		if got := Top(l, n); !slices.Equal(got, order[:min(n, 6)]) {
			t.Errorf("Top of %d: %v", n, got)
		}
	}
	for _, n := range []int{-1, math.MinInt64} {
		if len(Top(l, n)) != 0 {
			t.Error(n)
		}
	}
	Top(l, math.MaxInt64)[0].Value = 99
	if !slices.Equal(l, values(3, -5, 7, 3, 7, -9)) || len(Top(nil, 3)) != 0 {
		t.Error("Top changed what it was given")
	}
}

func TestP10_3Steps(t *testing.T) {
	for _, c := range []struct {
		l        []api.Sample
		up, down int
	}{{nil, 0, 0}, {values(5), 0, 0}, {values(1, 2, 2, 1, 5, 6), 3, 1}, {values(3, 2, 1), 0, 2}, {values(-5, -3), 1, 0}, {values(math.MaxInt64, math.MinInt64, math.MaxInt64), 1, 1}} {
		if up, down := Steps(c.l); up != c.up || down != c.down {
			t.Errorf("Steps(%v) = %d, %d", c.l, up, down)
		}
	}
}

func TestP10_4NthAndItsShare(t *testing.T) {
	l := values(9, 1, 1, 8, 0, 3, 3)
	ahead := int64(0)
	for share := range 1001 {
		n, _ := Nth(l, share)
		if n < ahead {
			t.Fatalf("Nth falls at %d", share)
		}
		ahead = n
		upTo := 0
		for _, x := range l {
			if x.Value <= n {
				upTo++
			}
		}
		if upTo*1000 < share*len(l) {
			t.Fatalf("Nth of %d has too few", share)
		}
	}
}
