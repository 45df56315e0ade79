package pack

import (
	"bytes"
	"math"
	"slices"
	"testing"

	"flywheel/api"
	"flywheel/zig"
)

const most = math.MaxInt64

func pairs(numbers ...int64) []api.Sample {
	var l []api.Sample
	for i := 0; i < len(numbers); i += 2 {
		l = append(l, api.Sample{Tick: numbers[i], Value: numbers[i+1]})
	}
	return l
}

func many(n int) []api.Sample {
	var l []api.Sample
	for i := range n {
		l = append(l, api.Sample{Tick: int64(3 * i), Value: int64(i * i % 97)})
	}
	return l
}

func TestP11_1Check(t *testing.T) {
	for _, c := range []struct {
		l   []api.Sample
		err api.Errno
	}{
		{nil, api.OK}, {pairs(0, 0), api.OK}, {pairs(0, 5, 1, 0, most, most), api.OK}, {many(256), api.OK}, {many(257), api.ErrLimit},
		{pairs(-1, 0), api.ErrTick}, {pairs(-1, -1), api.ErrTick}, {pairs(1, -1), api.ErrValue}, {pairs(1, 1, 1, 1), api.ErrOrder}, {pairs(2, 1, 1, 1), api.ErrOrder},
		{pairs(2, 1, 1, -1), api.ErrValue}, {pairs(2, 1, 1, 1, -1, 0), api.ErrOrder}, {pairs(2, 1, -1, 1, 1, 1), api.ErrTick}, {append(pairs(-1, -1), many(256)...), api.ErrLimit},
	} {
		b, err := Put(c.l)
		if Check(c.l) != c.err || err != c.err || err != api.OK && len(b) != 0 || Size(c.l) != len(b) {
			t.Errorf("%.4v: %d, %d, want %d", c.l, Check(c.l), err, c.err)
		}
	}
}

func TestP11_2PutAndSize(t *testing.T) {
	for _, c := range []struct {
		l    []api.Sample
		want []byte
	}{
		{nil, []byte{0}}, {pairs(3, 1), []byte{2, 6, 2}}, {pairs(0, 0), []byte{2, 0, 0}},
		{pairs(3, 5, 4, 2), zig.Put(2, 3, 5, 0, -3)}, {pairs(0, most, most, 0), zig.Put(2, 0, most, most-1, -most)},
	} {
		if b, err := Put(c.l); !bytes.Equal(b, c.want) || err != api.OK || Size(c.l) != len(c.want) {
			t.Errorf("Put(%v) = %v, %d, Size %d", c.l, b, err, Size(c.l))
		}
	}
}

func TestP11_3AndP11_4Get(t *testing.T) {
	for _, l := range [][]api.Sample{nil, pairs(0, 0), pairs(3, 5, 4, 2), pairs(0, most, most, 0), pairs(most, most), many(256)} {
		b, _ := Put(l)
		if got, err := Get(b); !slices.Equal(got, l) || err != api.OK {
			t.Errorf("Get of Put: %v, %d", got, err)
		}
	}
	for _, c := range []struct {
		b   []byte
		err api.Errno
	}{
		{nil, api.ErrForm}, {[]byte{2}, api.ErrForm}, {[]byte{128}, api.ErrShort}, {[]byte{2, 6, 128}, api.ErrShort}, {[]byte{128, 0}, api.ErrForm}, {[]byte{1}, api.ErrForm},
		{zig.Put(1, 3), api.ErrForm}, {zig.Put(1, 3, 1, 1), api.ErrForm}, {zig.Put(0, 3, 1), api.ErrForm}, {zig.Put(1, 3, 1, 3, 1), api.ErrForm}, {zig.Put(2, 3, 1), api.ErrForm}, {zig.Put(-1), api.ErrForm},
		{zig.Put(1, -1, 1), api.ErrForm}, {zig.Put(1, 1, -1), api.ErrForm}, {zig.Put(2, 1, 1, -1, 1), api.ErrForm}, {zig.Put(2, 1, 1, 0, -2), api.ErrForm},
		{zig.Put(2, most, 1, 0, 1), api.ErrForm}, {zig.Put(2, 5, 1, most, 1), api.ErrForm}, {zig.Put(2, 5, most, 1, 1), api.ErrForm}, {zig.Put(1, math.MinInt64, 1), api.ErrForm}, {zig.Put(most), api.ErrForm},
	} {
		if got, err := Get(c.b); len(got) != 0 || err != c.err {
			t.Errorf("Get(%v) = %v, %d, want %d", c.b, got, err, c.err)
		}
	}
	numbers := []int64{257}
	for range 257 {
		numbers = append(numbers, 0, 0)
	}
	if got, err := Get(zig.Put(numbers...)); len(got) != 0 || err != api.ErrForm {
		t.Error("more samples than there may be:", len(got), err)
	}
}

func TestP11_4WhatIsReadIsPutAsTheSameBytes(t *testing.T) {
	for i := range 1 << 18 {
		b := []byte{byte(i & 7), byte(i >> 3 & 63), byte(i >> 9 & 7), byte(i >> 12 & 7), byte(i >> 15)}
		for n := range len(b) + 1 {
			if l, err := Get(b[:n]); err == api.OK {
				if again, err := Put(l); !bytes.Equal(again, b[:n]) || err != api.OK {
					t.Fatal(b[:n], l)
				}
			}
		}
	}
}
