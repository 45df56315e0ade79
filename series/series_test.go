package series

import (
	"math"
	"slices"
	"testing"

	"flywheel/api"
)

func samples(pairs ...int64) []api.Sample {
	var l []api.Sample
	for i := 0; i < len(pairs); i += 2 {
		l = append(l, api.Sample{Tick: pairs[i], Value: pairs[i+1]})
	}
	return l
}

func TestP8_1NewAndRight(t *testing.T) {
	for _, room := range []int{1, 7, api.MaxSamples} {
		if s := New(room); s == nil || s.Len() != 0 || len(s.List()) != 0 {
			t.Errorf("room for %d", room)
		}
	}
	for _, room := range []int{0, -1, api.MaxSamples + 1, math.MaxInt64, math.MinInt64} {
		if New(room) != nil || Of(room, samples(1, 1)) != nil {
			t.Errorf("room for %d", room)
		}
	}
	for _, c := range []struct {
		tick, value int64
		err         api.Errno
	}{{0, 0, api.OK}, {math.MaxInt64, math.MaxInt64, api.OK}, {-1, 0, api.ErrTick}, {-1, -1, api.ErrTick}, {0, -1, api.ErrValue}, {math.MinInt64, 5, api.ErrTick}, {5, math.MinInt64, api.ErrValue}} {
		if Right(c.tick, c.value) != c.err || New(4).Put(c.tick, c.value) != c.err {
			t.Errorf("%d, %d", c.tick, c.value)
		}
	}
}

func TestP8_1Of(t *testing.T) {
	given := samples(5, 1, -1, 2, 3, 3, 4, -4, 7, 7, 3, 9)
	if s := Of(2, given); !slices.Equal(s.List(), samples(5, 1, 7, 7)) {
		t.Error(s.List())
	}
	if s := Of(5, given); !slices.Equal(s.List(), samples(3, 9, 5, 1, 7, 7)) {
		t.Error(s.List())
	}
}

func TestP8_1NilAndUnmade(t *testing.T) {
	var zero Series
	for _, s := range []*Series{nil, &zero} {
		if s.Put(1, 1) != api.ErrNone || s.Put(-1, 1) != api.ErrTick || s.Put(1, -1) != api.ErrValue {
			t.Error("Put")
		}
		if x, ok := s.Last(); s.Trim(99) != 0 || s.Len() != 0 || len(s.List()) != 0 || x != (api.Sample{}) || ok {
			t.Error("something is there")
		}
	}
	if (*Series)(nil).Clone() != nil {
		t.Error("the clone of nil")
	}
	if c := zero.Clone(); c == nil || c.Len() != 0 || c.Put(1, 1) != api.ErrNone {
		t.Error("the clone of a series that nobody made")
	}
}

func TestP8_2Put(t *testing.T) {
	s := New(3)
	for _, c := range []struct {
		tick, value int64
		want        []api.Sample
	}{
		{5, 1, samples(5, 1)}, {9, 2, samples(5, 1, 9, 2)}, {7, 3, samples(5, 1, 7, 3, 9, 2)}, {7, 4, samples(5, 1, 7, 4, 9, 2)},
		{3, 3, samples(5, 1, 7, 4, 9, 2)}, {6, 6, samples(6, 6, 7, 4, 9, 2)}, {10, 0, samples(7, 4, 9, 2, 10, 0)}, {7, 0, samples(7, 0, 9, 2, 10, 0)},
	} {
		if err := s.Put(c.tick, c.value); err != api.OK || !slices.Equal(s.List(), c.want) || s.Len() != len(c.want) {
			t.Fatalf("Put(%d, %d): %d, %v, want %v", c.tick, c.value, err, s.List(), c.want)
		}
		if x, ok := s.Last(); !ok || x != c.want[len(c.want)-1] {
			t.Fatal(x, ok)
		}
	}
}

func TestP8_3Trim(t *testing.T) {
	s := Of(8, samples(1, 1, 3, 3, 5, 5))
	for _, c := range []struct {
		cut  int64
		gone int
		left int
	}{{math.MinInt64, 0, 3}, {1, 0, 3}, {2, 1, 2}, {5, 1, 1}, {5, 0, 1}, {6, 1, 0}, {math.MaxInt64, 0, 0}} {
		if gone := s.Trim(c.cut); gone != c.gone || s.Len() != c.left {
			t.Errorf("Trim(%d) = %d, %d left", c.cut, gone, s.Len())
		}
	}
	if x, ok := s.Last(); x != (api.Sample{}) || ok {
		t.Error(x, ok)
	}
}

func TestP8_3CloneAndList(t *testing.T) {
	s := Of(2, samples(1, 1, 2, 2))
	c := s.Clone()
	s.List()[0].Value = 77
	if !slices.Equal(s.List(), samples(1, 1, 2, 2)) {
		t.Error("a list shares memory")
	}
	c.Put(2, 9)
	s.Put(1, 5)
	c.Put(3, 3)
	if !slices.Equal(s.List(), samples(1, 5, 2, 2)) || !slices.Equal(c.List(), samples(2, 9, 3, 3)) {
		t.Error(s.List(), c.List())
	}
}

func TestP8_4AnyOrder(t *testing.T) {
	ticks := []int64{4, 8, 15, 16, 23}
	var turn func(l, rest []int64)
	turn = func(l, rest []int64) {
		if len(rest) == 0 {
			s := New(3)
			for _, tick := range l {
				s.Put(tick, 2*tick)
			}
			if !slices.Equal(s.List(), samples(15, 30, 16, 32, 23, 46)) {
				t.Fatalf("%v: %v", l, s.List())
			}
		}
		for i := range rest {
			turn(append(slices.Clone(l), rest[i]), slices.Concat(rest[:i], rest[i+1:]))
		}
	}
	turn(nil, ticks)
}
