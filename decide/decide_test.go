package decide

import (
	"math"
	"slices"
	"testing"

	"flywheel/api"
	"flywheel/history"
	"flywheel/policy"
	"flywheel/series"
)

var usual = policy.Usual()

func samples(pairs ...int64) []api.Sample {
	var l []api.Sample
	for i := 0; i < len(pairs); i += 2 {
		l = append(l, api.Sample{Tick: pairs[i], Value: pairs[i+1]})
	}
	return l
}

func had(replicas int64) []api.Advice {
	return []api.Advice{{Tick: 50, Want: 99, Replicas: 77}, {Tick: -100, Replicas: replicas}}
}

func TestP16_1Now(t *testing.T) {
	if Now(usual, nil) != 1 || Now(api.Policy{Min: -4}, nil) != -4 || Now(usual, had(7)) != 7 || Now(usual, had(-7)) != -7 {
		t.Error("now")
	}
}

func TestP16_2Errors(t *testing.T) {
	if a, err := Of(api.Policy{}, nil, nil); a != (api.Advice{}) || err != api.ErrPolicy {
		t.Error(a, err)
	}
	if a, err := Of(usual, nil, had(5)); a != (api.Advice{}) || err != api.ErrNone {
		t.Error(a, err)
	}
}

func TestP16_2Of(t *testing.T) {
	five := usual
	five.Min = 5
	for name, c := range map[string]struct {
		p    api.Policy
		l    []api.Sample
		past []api.Advice
		want api.Advice
	}{
		"up at first":            {usual, samples(1, 250), nil, api.Advice{Tick: 1, Load: 250, Want: 3, Replicas: 3, Why: api.Up}},
		"near stays":             {usual, samples(1, 219), had(2), api.Advice{Tick: 1, Load: 219, Want: 2, Replicas: 2, Why: api.Keep}},
		"no longer near":         {usual, samples(1, 221), had(2), api.Advice{Tick: 1, Load: 221, Want: 3, Replicas: 3, Why: api.Up}},
		"down":                   {usual, samples(9, 130), had(5), api.Advice{Tick: 9, Load: 130, Want: 2, Replicas: 2, Why: api.Down}},
		"the same, but not near": {usual, samples(9, 450), had(5), api.Advice{Tick: 9, Load: 450, Want: 5, Replicas: 5, Why: api.Keep}},
		"least":                  {usual, samples(9, 0), had(5), api.Advice{Tick: 9, Load: 0, Want: 1, Replicas: 1, Why: api.Least}},
		"least stays least":      {five, samples(9, 100), had(5), api.Advice{Tick: 9, Load: 100, Want: 5, Replicas: 5, Why: api.Least}},
		"most":                   {usual, samples(9, 1001), had(5), api.Advice{Tick: 9, Load: 1001, Want: 10, Replicas: 10, Why: api.Most}},
		"just the most":          {usual, samples(9, 1000), had(5), api.Advice{Tick: 9, Load: 1000, Want: 10, Replicas: 10, Why: api.Up}},
		"just the least":         {usual, samples(9, 100), had(5), api.Advice{Tick: 9, Load: 100, Want: 1, Replicas: 1, Why: api.Down}},
		"near, above the most":   {usual, samples(9, 1200), had(12), api.Advice{Tick: 9, Load: 1200, Want: 10, Replicas: 10, Why: api.Most}},
		"near, below the least":  {five, samples(9, 310), had(3), api.Advice{Tick: 9, Load: 310, Want: 5, Replicas: 5, Why: api.Least}},
		"held":                   {usual, samples(2, 100), []api.Advice{{Tick: 1, Want: 3, Replicas: 3}}, api.Advice{Tick: 2, Load: 100, Want: 1, Replicas: 3, Why: api.Held}},
		"held, above the most":   {usual, samples(2, 5000), []api.Advice{{Tick: 1, Want: 30, Replicas: 3}}, api.Advice{Tick: 2, Load: 5000, Want: 10, Replicas: 10, Why: api.Held}},
		"held no longer":         {usual, samples(4, 100), []api.Advice{{Tick: 1, Want: 3, Replicas: 3}}, api.Advice{Tick: 4, Load: 100, Want: 1, Replicas: 1, Why: api.Down}},
		"the window's mean":      {usual, samples(6, 100, 1, 900, 2, 200, 4, 301), had(7), api.Advice{Tick: 6, Load: 201, Want: 3, Replicas: 3, Why: api.Down}},
		"values below 0":         {usual, samples(-6, -100), nil, api.Advice{Tick: -6, Want: 1, Replicas: 1, Why: api.Least}},
	} {
		if a, err := Of(c.p, c.l, c.past); a != c.want || err != api.OK {
			t.Errorf("%s: %+v, %d, want %+v", name, a, err, c.want)
		}
	}
}

func TestP16_2TickAtTheEnd(t *testing.T) {
	a, err := Of(usual, samples(math.MinInt64, 500), nil)
	if a != (api.Advice{Tick: math.MinInt64, Want: 1, Replicas: 1, Why: api.Least}) || err != api.OK {
		t.Errorf("%+v, %d", a, err)
	}
}

func TestP16_3Follow(t *testing.T) {
	l := samples(1, 250, 2, 100, -1, 5, 3, -5, 3, 100, 3, 0, 0, 900, 7, 50, 20, 0)
	for _, room := range [][2]int{{1, 1}, {2, 3}, {256, 64}} {
		s, h := series.New(room[0]), history.New(room[1])
		var want []api.Advice
		for _, x := range l {
			if s.Put(x.Tick, x.Value) == api.OK {
				a, _ := Of(usual, s.List(), h.List())
				h.Add(a)
				want = append(want, a)
			}
		}
		if got := Follow(usual, l, room[0], room[1]); !slices.Equal(got, want) || len(got) != 7 {
			t.Errorf("room %v: %v, want %v", room, got, want)
		}
	}
	for _, room := range [][2]int{{0, 1}, {1, 0}, {257, 1}, {1, 65}, {-1, -1}} {
		if len(Follow(usual, l, room[0], room[1])) != 0 {
			t.Errorf("room %v", room)
		}
	}
	if len(Follow(api.Policy{}, l, 5, 5)) != 0 || len(Follow(usual, nil, 5, 5)) != 0 {
		t.Error("nothing to follow")
	}
}

func TestP16_4WhatIsDecided(t *testing.T) {
	values := []int64{0, 90, 100, 110, 250, 1000, 1101, 9999}
	for _, load := range values {
		for now := int64(0); now < 13; now++ {
			for _, want := range values {
				past := []api.Advice{{Tick: 5, Want: want / 100, Replicas: now}}
				a, err := Of(usual, samples(6, load), past)
				if err != api.OK || a.Replicas < 1 || a.Replicas > 10 {
					t.Fatalf("%+v, %d", a, err)
				}
				if now >= 1 && now <= 10 && a.Replicas < now && want/100 >= now {
					t.Fatalf("it falls below %d, which was wanted: %+v", now, a)
				}
				more, _ := Of(usual, samples(1, 12345, 6, load, 0, 7), past)
				if more != a {
					t.Fatalf("samples ahead of the window count: %+v, %+v", a, more)
				}
			}
		}
	}
}
