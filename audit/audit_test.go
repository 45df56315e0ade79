package audit

import (
	"math/rand"
	"testing"

	"flywheel/api"
	"flywheel/decide"
	"flywheel/policy"
)

var usual = policy.Usual()

func TestP48_1Rule(t *testing.T) {
	two := []api.Advice{{Tick: 1, Want: 2, Replicas: 2, Why: api.Up}}
	five := []api.Advice{{Tick: 1, Want: 5, Replicas: 5, Why: api.Up}}
	for i, c := range []struct {
		p    api.Policy
		past []api.Advice
		a    api.Advice
		want int
	}{
		{usual, nil, api.Advice{}, Reason}, {usual, nil, api.Advice{Why: 7}, Reason}, {usual, nil, api.Advice{Why: -1}, Reason}, {api.Policy{}, nil, api.Advice{}, Reason},
		{api.Policy{}, nil, api.Advice{Why: api.Keep}, Bounds}, {usual, nil, api.Advice{Why: api.Keep}, Bounds}, {usual, nil, api.Advice{Why: api.Keep, Replicas: 11}, Bounds},
		{usual, nil, api.Advice{Load: 250, Want: 2, Replicas: 2, Why: api.Up}, Wanted}, {usual, two, api.Advice{Tick: 2, Load: 215, Want: 3, Replicas: 3, Why: api.Up}, Wanted}, {usual, two, api.Advice{Tick: 2, Load: 5000, Want: 50, Replicas: 10, Why: api.Most}, Wanted},
		{usual, nil, api.Advice{Load: 250, Want: 3, Replicas: 4, Why: api.Up}, Held}, {usual, nil, api.Advice{Load: 250, Want: 3, Replicas: 3, Why: api.Held}, Held}, {usual, five, api.Advice{Tick: 2, Load: 100, Want: 1, Replicas: 1, Why: api.Down}, Held}, {usual, five, api.Advice{Tick: 2, Load: 100, Want: 1, Replicas: 5, Why: api.Keep}, Held},
		{usual, two, api.Advice{Tick: 2, Load: 215, Want: 2, Replicas: 2, Why: api.Up}, Changed}, {usual, two, api.Advice{Tick: 2, Load: 215, Want: 2, Replicas: 2, Why: api.Down}, Changed}, {usual, two, api.Advice{Tick: 9, Load: 300, Want: 3, Replicas: 3, Why: api.Keep}, Changed}, {usual, two, api.Advice{Tick: 9, Load: 300, Want: 3, Replicas: 3, Why: api.Down}, Changed}, {usual, five, api.Advice{Tick: 9, Load: 100, Want: 1, Replicas: 1, Why: api.Up}, Changed}, {usual, five, api.Advice{Tick: 9, Load: 100, Want: 1, Replicas: 1, Why: api.Keep}, Changed},
		{usual, nil, api.Advice{Load: 250, Want: 3, Replicas: 3, Why: api.Up}, Fine}, {usual, five, api.Advice{Tick: 2, Load: 100, Want: 1, Replicas: 5, Why: api.Held}, Fine}, {usual, five, api.Advice{Tick: 9, Load: 100, Want: 1, Replicas: 1, Why: api.Down}, Fine}, {usual, two, api.Advice{Tick: 2, Load: 215, Want: 2, Replicas: 2, Why: api.Keep}, Fine},
		{usual, two, api.Advice{Tick: 9, Load: 300, Want: 3, Replicas: 3, Why: api.Most}, Fine}, {usual, two, api.Advice{Tick: 9, Load: 300, Want: 3, Replicas: 3, Why: api.Least}, Fine},
	} {
		if got := Rule(c.p, c.past, c.a); got != c.want {
			t.Errorf("%d: %d, want %d", i, got, c.want)
		}
	}
	if Fine != 0 || Reason != 1 || Bounds != 2 || Wanted != 3 || Held != 4 || Changed != 5 {
		t.Error("the rules")
	}
}

func followed(seed int64, room int) []api.Advice {
	r := rand.New(rand.NewSource(seed))
	var l []api.Sample
	for i := range int64(60) {
		l = append(l, api.Sample{Tick: i + int64(r.Intn(3)), Value: int64(r.Intn(1400))})
	}
	return decide.Follow(usual, l, 1+r.Intn(9), room)
}

func TestP48_2Check(t *testing.T) {
	l := followed(1, 3)
	if i, rule := Check(usual, l, 3); i != -1 || rule != Fine {
		t.Error(i, rule)
	}
	if i, rule := Check(usual, nil, 3); i != -1 || rule != Fine {
		t.Error(i, rule)
	}
	for _, turn := range []struct {
		do   func(a *api.Advice)
		rule int
	}{{func(a *api.Advice) { a.Why = 0 }, Reason}, {func(a *api.Advice) { a.Replicas = 99 }, Bounds}, {func(a *api.Advice) { a.Want++ }, Wanted}} {
		for _, place := range []int{0, 7, len(l) - 1} {
			m := append([]api.Advice(nil), l...)
			turn.do(&m[place])
			if i, rule := Check(usual, m, 3); i != place || rule != turn.rule {
				t.Error(place, i, rule)
			}
		}
	}
	alone := []api.Advice{{Tick: 1, Load: 500, Want: 5, Replicas: 5, Why: api.Up}, {Tick: 2, Load: 100, Want: 1, Replicas: 5, Why: api.Held}}
	if i, rule := Check(usual, alone, 1); i != -1 || rule != Fine {
		t.Error(i, rule)
	}
	for _, room := range []int{0, -1, 65} {
		if i, rule := Check(usual, alone, room); i != 1 || rule != Held {
			t.Error("without a history", i, rule)
		}
	}
}

func TestP48_2Counts(t *testing.T) {
	l := followed(2, 3)
	if Counts(usual, l, 3) != [6]int{len(l)} || Counts(usual, nil, 3) != [6]int{} {
		t.Error(Counts(usual, l, 3))
	}
	m := []api.Advice{
		{Why: 0}, {Why: 9, Replicas: 2}, {Why: api.Keep, Replicas: 77}, {Tick: 1, Load: 500, Want: 4, Replicas: 4, Why: api.Up}, {Tick: 5, Load: 500, Want: 5, Replicas: 5, Why: api.Up}, {Tick: 9, Load: 700, Want: 7, Replicas: 7, Why: api.Held},
		{Tick: 13, Load: 700, Want: 7, Replicas: 7, Why: api.Up}, {Tick: 17, Load: 700, Want: 7, Replicas: 7, Why: api.Keep},
	}
	if got := Counts(usual, m, 2); got != [6]int{2, 2, 1, 1, 1, 1} {
		t.Error(got)
	}
}

func TestP48_3WhatFollowTellsIsFine(t *testing.T) {
	for seed := range int64(80) {
		for _, room := range []int{1, 2, 5, 64} {
			if i, rule := Check(usual, followed(seed, room), room); i != -1 || rule != Fine {
				t.Fatal(seed, room, i, rule)
			}
		}
	}
}
