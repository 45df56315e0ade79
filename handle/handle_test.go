package handle

import (
	"math"
	"slices"
	"testing"

	"flywheel/api"
	"flywheel/cut"
)

func TestP20_1Open(t *testing.T) {
	h := New()
	if len(h.Live()) != 0 {
		t.Error("a new table")
	}
	if n, err := h.Open(nil); n != 0 || err != api.ErrNone {
		t.Error(n, err)
	}
	for i := range api.MaxHandles {
		if n, err := h.Open(cut.New(int64(i))); n != i+1 || err != api.OK {
			t.Fatal(n, err)
		}
	}
	if n, err := h.Open(cut.New(1)); n != 0 || err != api.ErrFull {
		t.Error(n, err)
	}
	if n, err := h.Open(nil); n != 0 || err != api.ErrNone {
		t.Error("what is named first:", n, err)
	}
	h.Free(5)
	if n, err := h.Open(cut.New(1)); n != 65 || err != api.OK {
		t.Error("a number is told once:", n, err)
	}
	if n, err := h.Open(cut.New(1)); n != 0 || err != api.ErrFull || len(h.Live()) != 64 {
		t.Error(n, err)
	}
}

func TestP20_2AndP20_3GetFreeLive(t *testing.T) {
	h := New()
	a, b, c := cut.New(1), cut.New(2), cut.New(3)
	h.Open(a)
	h.Open(b)
	h.Open(c)
	for n, want := range map[int]*cut.Cut{1: a, 2: b, 3: c} {
		if got, err := h.Get(n); got != want || err != api.OK {
			t.Errorf("the cut %d", n)
		}
	}
	if h.Free(2) != api.OK || h.Free(2) != api.ErrFreed || !slices.Equal(h.Live(), []int{1, 3}) {
		t.Error(h.Live())
	}
	if got, err := h.Get(2); got != nil || err != api.ErrFreed {
		t.Error(got, err)
	}
	for _, n := range []int{0, -1, 4, math.MaxInt64, math.MinInt64} {
		if got, err := h.Get(n); got != nil || err != api.ErrNone || h.Free(n) != api.ErrNone {
			t.Errorf("the number %d: %d", n, err)
		}
	}
	h.Free(1)
	h.Free(3)
	if n, err := h.Open(a); n != 4 || err != api.OK || !slices.Equal(h.Live(), []int{4}) {
		t.Error(n, err)
	}
}

func TestP20_1NilAndUnmade(t *testing.T) {
	var zero Table
	for _, h := range []*Table{nil, &zero} {
		n, err := h.Open(cut.New(1))
		c, none := h.Get(1)
		if n != 0 || err != api.ErrNone || c != nil || none != api.ErrNone || h.Free(1) != api.ErrNone || len(h.Live()) != 0 {
			t.Error("something is there")
		}
	}
}
