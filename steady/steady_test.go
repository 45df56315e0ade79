package steady

import (
	"math"
	"testing"

	"flywheel/api"
	"flywheel/history"
	"flywheel/policy"
)

func decisions(replicas ...int64) []api.Advice {
	var l []api.Advice
	for i, n := range replicas {
		l = append(l, api.Advice{Tick: int64(i), Want: n, Replicas: n})
	}
	return l
}

func TestP15_1AndP15_4Of(t *testing.T) {
	p := policy.Usual()
	past := []api.Advice{{Tick: 1, Want: 9}, {Tick: 5, Want: 5}, {Tick: 9, Want: 8}}
	for _, c := range []struct {
		tick, want, told int64
		held             bool
	}{{7, 3, 5, true}, {7, 5, 5, false}, {7, 6, 6, false}, {8, 3, 3, false}, {3, 3, 9, true}, {0, 3, 3, false}, {9, 3, 8, true}} {
		if n, held := Of(p, c.tick, c.want, past); n != c.told || held != c.held {
			t.Errorf("at %d, %d wanted: %d, %v", c.tick, c.want, n, held)
		}
		if n, held := Of(p, c.tick, c.want, nil); n != c.want || held {
			t.Error("without a past")
		}
	}
	p.Hold = 0
	if n, held := Of(p, 5, 3, past); n != 3 || held {
		t.Error("nothing is held for no ticks")
	}
	p.Hold = math.MaxInt64
	if n, held := Of(p, 9, 3, past); n != 9 || !held {
		t.Error(n, held)
	}
}

func TestP15_2StreakAndSettled(t *testing.T) {
	for _, c := range []struct {
		l    []api.Advice
		want int
	}{{nil, 0}, {decisions(5), 1}, {decisions(5, 5), 2}, {decisions(5, 6), 1}, {decisions(6, 5, 6, 6, 6), 3}, {decisions(0, 0), 2}} {
		if Streak(c.l) != c.want {
			t.Errorf("%v: %d", c.l, Streak(c.l))
		}
		for _, n := range []int{math.MinInt64, -1, 0, 1, 2, 3, 4, math.MaxInt64} {
			if Settled(c.l, n) != (len(c.l) > 0 && c.want >= n) {
				t.Errorf("%v is settled for %d: %v", c.l, n, Settled(c.l, n))
			}
		}
	}
}

func TestP15_3AndP15_4Turns(t *testing.T) {
	for _, c := range []struct {
		l    []api.Advice
		want int
	}{
		{nil, 0}, {decisions(1), 0}, {decisions(1, 2), 0}, {decisions(1, 2, 2, 1), 1}, {decisions(1, 2, 3), 0}, {decisions(3, 2, 1), 0}, {decisions(1, 2, 1, 2, 1), 3}, {decisions(5, 5, 1, 1, 7, 9, 2), 2},
		{decisions(math.MinInt64, math.MaxInt64, math.MinInt64), 1},
	} {
		if Turns(c.l) != c.want {
			t.Errorf("%v: %d", c.l, Turns(c.l))
		}
		if changes := history.Changes(c.l); changes > 0 && Turns(c.l) > changes-1 {
			t.Error("more turns than changes")
		}
	}
}
