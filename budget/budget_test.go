package budget

import (
	"math"
	"math/rand"
	"slices"
	"testing"

	"flywheel/api"
)

const most, least = math.MaxInt64, math.MinInt64

func TestP51_1Check(t *testing.T) {
	for i, c := range []struct {
		total int64
		l     []Want
		want  api.Errno
	}{
		{0, nil, api.OK}, {4096, make([]Want, 64), api.OK}, {5, []Want{{2, 2}, {3, most}}, api.OK}, {-1, []Want{{-1, 0}}, api.ErrArg}, {4097, nil, api.ErrArg}, {5, make([]Want, 65), api.ErrArg}, {least, nil, api.ErrArg}, {most, nil, api.ErrArg},
		{5, []Want{{-1, 5}}, api.ErrValue}, {5, []Want{{3, 2}}, api.ErrValue}, {5, []Want{{9, 9}, {3, 2}}, api.ErrValue}, {5, []Want{{least, least}}, api.ErrValue}, {5, []Want{{3, 3}, {3, 3}}, api.ErrLimit}, {5, []Want{{most, most}, {most, most}}, api.ErrLimit}, {1, []Want{{1, 1}, {1, 1}}, api.ErrLimit}, {0, []Want{{0, 9}}, api.OK},
	} {
		if got := Check(c.total, c.l); got != c.want {
			t.Errorf("%d: %d", i, got)
		}
		if has, err := Share(c.total, c.l); err != c.want || err != api.OK && len(has) != 0 {
			t.Errorf("%d: %v, %d", i, has, err)
		}
	}
	if Most != 64 || MostTotal != 4096 {
		t.Error("the limits")
	}
}

func TestP51_2Share(t *testing.T) {
	for i, c := range []struct {
		total int64
		l     []Want
		want  []int64
	}{
		{5, []Want{{0, 4}, {0, 2}}, []int64{4, 1}}, {4, []Want{{0, 4}, {0, 2}}, []int64{3, 1}}, {3, []Want{{0, 4}, {0, 2}}, []int64{3, 0}}, {9, []Want{{0, 4}, {0, 2}}, []int64{4, 2}}, {0, []Want{{0, 4}}, []int64{0}}, {5, nil, nil},
		{1, []Want{{0, 1}, {0, 1}}, []int64{1, 0}}, {2, []Want{{0, 1}, {0, 2}, {0, 2}}, []int64{0, 1, 1}}, {6, []Want{{3, 3}, {1, 9}, {0, 3}}, []int64{3, 3, 0}}, {4096, []Want{{0, most}, {96, most}}, []int64{2048, 2048}},
	} {
		if has, err := Share(c.total, c.l); !slices.Equal(has, c.want) || err != api.OK {
			t.Errorf("%d: %v, %d, want %v", i, has, err, c.want)
		}
	}
}

func TestP51_3Lacks(t *testing.T) {
	for i, c := range []struct {
		l    []Want
		has  []int64
		want int64
	}{
		{nil, nil, 0}, {[]Want{{0, 5}, {0, 3}}, []int64{2, 4}, 3}, {[]Want{{0, 5}, {0, 3}}, []int64{2}, 3}, {[]Want{{0, 5}}, []int64{2, -100}, 3}, {[]Want{{0, 5}}, []int64{-2}, 7}, {[]Want{{0, most}, {0, 9}}, []int64{least, 0}, most}, {[]Want{{0, -5}}, []int64{-8}, 3}, {[]Want{{9, 5}}, []int64{5}, 0},
	} {
		if got := Lacks(c.l, c.has); got != c.want {
			t.Errorf("%d: %d", i, got)
		}
	}
}

func TestP51_3Fit(t *testing.T) {
	l := []api.Advice{{Tick: 1, Load: 2, Want: 3, Replicas: 6, Why: 2}, {Replicas: 1, Why: 4}, {Replicas: 4}}
	p := []api.Policy{{Min: 2}, {Min: 5}, {Min: 0}}
	kept := slices.Clone(l)
	got, err := Fit(7, l, p)
	if want := []api.Advice{{Tick: 1, Load: 2, Want: 3, Replicas: 4, Why: 2}, {Replicas: 1, Why: 4}, {Replicas: 2}}; !slices.Equal(got, want) || err != api.OK {
		t.Error(got, err)
	}
	if got, err := Fit(99, l, p); !slices.Equal(got, l) || err != api.OK {
		t.Error(got, err)
	}
	if !slices.Equal(l, kept) {
		t.Error("Fit changed what it was given")
	}
	for i, c := range []struct {
		total int64
		l     []api.Advice
		p     []api.Policy
		want  api.Errno
	}{{7, l, p[:2], api.ErrForm}, {-7, l[:2], p, api.ErrForm}, {-7, l, p, api.ErrArg}, {2, l, p, api.ErrLimit}, {2, []api.Advice{{Replicas: -1}}, p[:1], api.ErrValue}, {2, l[:1], []api.Policy{{Min: -1}}, api.ErrValue}, {9, make([]api.Advice, 65), make([]api.Policy, 65), api.ErrArg}} {
		if got, err := Fit(c.total, c.l, c.p); len(got) != 0 || err != c.want {
			t.Error(i, got, err)
		}
	}
	if got, err := Fit(5, nil, nil); len(got) != 0 || err != api.OK {
		t.Error(got, err)
	}
}

func TestP51_4WhatEachHas(t *testing.T) {
	for seed := range int64(200) {
		r := rand.New(rand.NewSource(seed))
		var l []Want
		var all, needed int64
		for range r.Intn(9) {
			w := Want{Min: int64(r.Intn(4))}
			w.Want = w.Min + int64(r.Intn(8))
			l, all, needed = append(l, w), all+w.Want, needed+w.Min
		}
		total := needed + int64(r.Intn(30))
		has, err := Share(total, l)
		if err != api.OK {
			t.Fatal(err)
		}
		var sum int64
		for i, n := range has {
			if sum += n; n < l[i].Min || n > l[i].Want {
				t.Fatal(seed, has)
			}
		}
		if sum != min(total, all) || Lacks(l, has) != all-sum {
			t.Fatal(seed, sum)
		}
	}
}
