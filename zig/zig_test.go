package zig

import (
	"bytes"
	"math"
	"slices"
	"testing"

	"flywheel/api"
)

var numbers = []int64{0, -1, 1, -2, 2, 63, -64, 64, -65, 8191, 8192, -8192, -8193, 1 << 31, 1 << 55, 1<<62 - 1, 1 << 62, -1 << 62, math.MaxInt64, math.MinInt64}

func TestP6_1ZigAndZag(t *testing.T) {
	for n, w := range map[int64]uint64{0: 0, -1: 1, 1: 2, -2: 3, 2: 4, 64: 128, math.MaxInt64: math.MaxUint64 - 1, math.MinInt64: math.MaxUint64} {
		if Zig(n) != w || Zag(w) != n {
			t.Errorf("Zig(%d) = %d, Zag(%d) = %d", n, Zig(n), w, Zag(w))
		}
	}
	for _, n := range numbers {
		if Zag(Zig(n)) != n {
			t.Error(n)
		}
	}
}

func TestP6_2Put(t *testing.T) {
	full := bytes.Repeat([]byte{255}, 9)
	for _, c := range []struct {
		l    []int64
		want []byte
	}{
		{nil, nil}, {[]int64{0}, []byte{0}}, {[]int64{-1}, []byte{1}}, {[]int64{63}, []byte{126}}, {[]int64{-64}, []byte{127}}, {[]int64{64}, []byte{128, 1}},
		{[]int64{8191}, []byte{254, 127}}, {[]int64{8192}, []byte{128, 128, 1}}, {[]int64{0, 64, 0}, []byte{0, 128, 1, 0}},
		{[]int64{math.MinInt64}, append(slices.Clone(full), 1)}, {[]int64{math.MaxInt64}, append([]byte{254}, append(full[:8:8], 1)...)},
	} {
		if got := Put(c.l...); !bytes.Equal(got, c.want) {
			t.Errorf("Put(%v) = %v, want %v", c.l, got, c.want)
		}
	}
}

func TestP6_2Get(t *testing.T) {
	nine := bytes.Repeat([]byte{128}, 9)
	with := func(b ...byte) []byte { return append(slices.Clone(nine), b...) }
	for _, c := range []struct {
		b    []byte
		n    int64
		used int
		err  api.Errno
	}{
		{[]byte{0}, 0, 1, api.OK}, {[]byte{0, 0}, 0, 1, api.OK}, {[]byte{128, 1, 7}, 64, 2, api.OK}, {with(1), Zag(1 << 63), 10, api.OK}, {with(1, 0), Zag(1 << 63), 10, api.OK},
		{nil, 0, 0, api.ErrShort}, {[]byte{128}, 0, 0, api.ErrShort}, {[]byte{255, 255}, 0, 0, api.ErrShort}, {nine, 0, 0, api.ErrShort},
		{[]byte{128, 0}, 0, 0, api.ErrForm}, {[]byte{128, 128, 0, 1}, 0, 0, api.ErrForm}, {with(0), 0, 0, api.ErrForm}, {with(2), 0, 0, api.ErrForm}, {with(127), 0, 0, api.ErrForm}, {with(128), 0, 0, api.ErrForm}, {with(129, 1), 0, 0, api.ErrForm},
	} {
		if n, used, err := Get(c.b); n != c.n || used != c.used || err != c.err {
			t.Errorf("Get(%v) = %d, %d, %d", c.b, n, used, err)
		}
	}
}

func TestP6_3AndP6_4All(t *testing.T) {
	b := Put(numbers...)
	if l, err := All(b); !slices.Equal(l, numbers) || err != api.OK {
		t.Error(l, err)
	}
	if l, err := All(nil); len(l) != 0 || err != api.OK {
		t.Error(l, err)
	}
	for _, c := range []struct {
		b   []byte
		err api.Errno
	}{{[]byte{1, 128}, api.ErrShort}, {[]byte{1, 128, 0, 128}, api.ErrForm}, {[]byte{1, 2, 128, 0}, api.ErrForm}} {
		if l, err := All(c.b); len(l) != 0 || err != c.err {
			t.Errorf("All(%v) = %v, %d", c.b, l, err)
		}
	}
}

func TestP6_4WhatIsReadIsPutAsTheSameBytes(t *testing.T) {
	for a := range 256 {
		for c := range 256 {
			b := []byte{byte(a), byte(c)}
			if l, err := All(b); err == api.OK && !bytes.Equal(Put(l...), b) {
				t.Fatal(b)
			}
		}
	}
}
