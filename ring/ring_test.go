package ring

import (
	"math"
	"slices"
	"testing"
)

func TestP7_1New(t *testing.T) {
	for _, room := range []int{1, 2, Most} {
		r := New[string](room)
		if r == nil || r.Room() != room || r.Len() != 0 || len(r.List()) != 0 {
			t.Errorf("room for %d", room)
		}
	}
	for _, room := range []int{0, -1, Most + 1, math.MinInt64, math.MaxInt64} {
		if New[int](room) != nil {
			t.Errorf("room for %d", room)
		}
	}
	if Most != 4096 {
		t.Error(Most)
	}
}

func TestP7_1NilAndUnmade(t *testing.T) {
	var zero Ring[int]
	for _, r := range []*Ring[int]{nil, &zero} {
		if x, ok := r.Push(5); x != 0 || ok {
			t.Error(x, ok)
		}
		if x, ok := r.At(0); x != 0 || ok {
			t.Error(x, ok)
		}
		if x, ok := r.Last(); x != 0 || ok {
			t.Error(x, ok)
		}
		if r.Room() != 0 || r.Len() != 0 || len(r.List()) != 0 {
			t.Error("something is there")
		}
		for range r.All() {
			t.Error("something is gone through")
		}
	}
	if (*Ring[int])(nil).Clone() != nil {
		t.Error("the clone of nil")
	}
	if c := zero.Clone(); c == nil || c == &zero || c.Len() != 0 || c.Room() != 0 {
		t.Error("the clone of a ring that nobody made")
	}
}

func TestP7_2AndP7_4Push(t *testing.T) {
	for room := 1; room < 6; room++ {
		r := New[int](room)
		var all []int
		for x := range 20 {
			gone, full := r.Push(x)
			if full != (len(all) >= room) || full && gone != x-room || !full && gone != 0 {
				t.Fatalf("Push(%d) = %d, %v", x, gone, full)
			}
			all = append(all, x)
			want := all[max(0, len(all)-room):]
			if r.Len() != len(want) || !slices.Equal(r.List(), want) || !slices.Equal(slices.Collect(r.All()), want) {
				t.Fatalf("room %d: %v, want %v", room, r.List(), want)
			}
			for i, y := range want {
				if got, ok := r.At(i); got != y || !ok {
					t.Fatalf("At(%d) = %d, %v", i, got, ok)
				}
			}
			for _, i := range []int{-1, len(want), math.MinInt64, math.MaxInt64} {
				if got, ok := r.At(i); got != 0 || ok {
					t.Fatalf("At(%d) = %d, %v", i, got, ok)
				}
			}
			if got, ok := r.Last(); got != x || !ok {
				t.Fatalf("Last = %d, %v", got, ok)
			}
		}
	}
}

func TestP7_3AllAndList(t *testing.T) {
	r := New[int](3)
	for x := range 5 {
		r.Push(x)
	}
	var seen []int
	for x := range r.All() {
		seen = append(seen, x)
		if r.Push(100); x == 3 {
			break
		}
	}
	if !slices.Equal(seen, []int{2, 3}) {
		t.Error(seen)
	}
	before := r.List()
	r.List()[0] = 77
	if !slices.Equal(r.List(), before) {
		t.Error("a list shares memory with the ring")
	}
}

func TestP7_3Clone(t *testing.T) {
	r := New[int](2)
	r.Push(1)
	r.Push(2)
	r.Push(3)
	c := r.Clone()
	if c == r || c.Room() != 2 || !slices.Equal(c.List(), []int{2, 3}) {
		t.Error(c.List())
	}
	c.Push(4)
	r.Push(9)
	if !slices.Equal(c.List(), []int{3, 4}) || !slices.Equal(r.List(), []int{3, 9}) {
		t.Error(c.List(), r.List())
	}
}
