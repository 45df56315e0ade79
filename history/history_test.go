package history

import (
	"math"
	"slices"
	"testing"

	"flywheel/api"
)

func advice(tick, want int64) api.Advice {
	return api.Advice{Tick: tick, Want: want, Replicas: want, Why: api.Keep}
}

func TestP14_1New(t *testing.T) {
	for _, room := range []int{1, 5, api.MaxHistory} {
		if h := New(room); h == nil || h.Len() != 0 || len(h.List()) != 0 {
			t.Errorf("room for %d", room)
		}
	}
	for _, room := range []int{0, -1, api.MaxHistory + 1, math.MaxInt64, math.MinInt64} {
		if New(room) != nil {
			t.Errorf("room for %d", room)
		}
	}
}

func TestP14_1NilAndUnmade(t *testing.T) {
	var zero History
	for _, h := range []*History{nil, &zero} {
		if h.Add(advice(1, 1)) || h.Len() != 0 || len(h.List()) != 0 {
			t.Error("something is kept")
		}
		if a, ok := h.Last(); a != (api.Advice{}) || ok {
			t.Error(a, ok)
		}
	}
	if (*History)(nil).Clone() != nil {
		t.Error("the clone of nil")
	}
	if c := zero.Clone(); c == nil || c == &zero || c.Len() != 0 || c.Add(advice(1, 1)) {
		t.Error("the clone of a history that nobody made")
	}
}

func TestP14_1AndP14_4Add(t *testing.T) {
	for _, room := range []int{1, 2, 3, 64} {
		h := New(room)
		var all []api.Advice
		for i := range int64(80) {
			a := advice(i, i%7)
			all = append(all, a)
			want := all[max(0, len(all)-room):]
			if !h.Add(a) || h.Len() != len(want) || !slices.Equal(h.List(), want) {
				t.Fatalf("room for %d: %v", room, h.List())
			}
			if last, ok := h.Last(); last != a || !ok {
				t.Fatal(last, ok)
			}
		}
	}
}

func TestP14_2Clone(t *testing.T) {
	h := New(2)
	h.Add(advice(1, 1))
	c := h.Clone()
	h.List()[0].Want = 77
	h.Add(advice(2, 2))
	c.Add(advice(3, 3))
	c.Add(advice(4, 4))
	if !slices.Equal(h.List(), []api.Advice{advice(1, 1), advice(2, 2)}) || !slices.Equal(c.List(), []api.Advice{advice(3, 3), advice(4, 4)}) {
		t.Error(h.List(), c.List())
	}
}

func TestP14_3Highest(t *testing.T) {
	l := []api.Advice{advice(3, 9), advice(5, 7), advice(6, 2), advice(8, 4), advice(9, 8)}
	for _, c := range []struct {
		tick, hold, want int64
		ok               bool
	}{
		{8, 3, 4, true}, {8, 4, 7, true}, {8, 5, 7, true}, {8, 6, 9, true}, {9, 1, 8, true}, {8, 1, 4, true}, {8, 0, 0, false}, {8, -1, 0, false}, {7, 1, 0, false}, {2, 9, 0, false},
		{8, math.MaxInt64, 9, true}, {math.MaxInt64, math.MaxInt64, 9, true}, {math.MinInt64, 5, 0, false},
	} {
		if n, ok := Highest(l, c.tick, c.hold); n != c.want || ok != c.ok {
			t.Errorf("Highest at %d, hold %d: %d, %v", c.tick, c.hold, n, ok)
		}
	}
	if n, ok := Highest([]api.Advice{advice(5, 7)}, 8, 3); n != 0 || ok {
		t.Error("the document's example")
	}
	if n, ok := Highest([]api.Advice{advice(5, -7), advice(5, -9)}, 5, 3); n != -7 || !ok {
		t.Error("wants below 0:", n, ok)
	}
	if n, ok := Highest([]api.Advice{advice(math.MinInt64, 7)}, math.MinInt64, 3); n != 0 || ok {
		t.Error("a tick at the end of numbers:", n, ok)
	}
}

func TestP14_3ChangesAndReasons(t *testing.T) {
	var l []api.Advice
	for i, n := range []int64{7, 1, 1, 2, 2, 3} {
		l = append(l, api.Advice{Replicas: n, Want: int64(i), Why: i})
	}
	if Changes(l) != 3 || Changes(nil) != 0 || Changes(l[:1]) != 0 {
		t.Error(Changes(l))
	}
	l = append(l, api.Advice{Why: 6}, api.Advice{Why: 7}, api.Advice{Why: -1}, api.Advice{Why: math.MaxInt64}, api.Advice{Why: 2}, api.Advice{Why: math.MinInt64})
	if Reasons(l) != [7]int{5, 1, 2, 1, 1, 1, 1} || Reasons(nil) != [7]int{} {
		t.Error(Reasons(l))
	}
}
