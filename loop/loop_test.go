package loop

import (
	"math"
	"slices"
	"testing"

	"flywheel/api"
	"flywheel/decide"
	"flywheel/history"
	"flywheel/policy"
	"flywheel/series"
	"flywheel/shape"
)

const most = math.MaxInt64

var usual = policy.Usual()

func flat(load int64) shape.Shape {
	return shape.Shape{Kind: shape.Flat, Low: load, High: load, Period: 1}
}

func TestP55_1Check(t *testing.T) {
	bad, kind := flat(5), shape.Shape{}
	bad.Period = 0
	for i, c := range []struct {
		p     api.Policy
		ticks int
		l     []shape.Shape
		want  api.Errno
	}{
		{usual, 0, nil, api.OK}, {usual, 1024, []shape.Shape{flat(5)}, api.OK}, {api.Policy{}, -1, []shape.Shape{kind}, api.ErrPolicy}, {usual, -1, []shape.Shape{flat(5), kind, bad}, api.ErrKind}, {usual, 1025, []shape.Shape{flat(5), bad, kind}, api.ErrArg},
		{usual, -1, nil, api.ErrLimit}, {usual, 1025, []shape.Shape{flat(5)}, api.ErrLimit}, {usual, math.MaxInt64, nil, api.ErrLimit}, {usual, math.MinInt64, nil, api.ErrLimit},
	} {
		if got := Check(c.p, c.ticks, c.l); got != c.want {
			t.Errorf("%d: %d", i, got)
		}
		if l, err := Run(c.p, c.ticks, c.l...); err != c.want || err == api.OK && len(l) != c.ticks || err != api.OK && len(l) != 0 {
			t.Errorf("%d: %v, %d", i, l, err)
		}
	}
	if MaxTicks != 1024 {
		t.Error(MaxTicks)
	}
}

func TestP55_2Run(t *testing.T) {
	l, err := Run(usual, 4, flat(250))
	want := []Row{{0, 250, 1, 100, 150}, {1, 250, 3, 300, 100}, {2, 250, 3, 300, 50}, {3, 250, 4, 300, 0}}
	want[3] = Row{3, 250, l[3].Replicas, min(300, 100*l[3].Replicas), 300 - min(300, 100*l[3].Replicas)}
	if !slices.Equal(l, want) || err != api.OK {
		t.Error(l, err)
	}
}

// again reckons a loop as the document tells it.
func again(p api.Policy, ticks int, l ...shape.Shape) []Row {
	s, h := series.New(64), history.New(16)
	replicas, left := p.Min, int64(0)
	var rows []Row
	for tick := range int64(ticks) {
		r := Row{Tick: tick, Comes: shape.Sum(tick, l...), Replicas: replicas}
		all := left + r.Comes
		r.Serves = all
		if all > replicas*p.Target {
			r.Serves = replicas * p.Target
		}
		left = all - r.Serves
		r.Left = left
		s.Put(tick, all)
		a, _ := decide.Of(p, s.List(), h.List())
		h.Add(a)
		replicas = a.Replicas
		rows = append(rows, r)
	}
	return rows
}

func TestP55_2AndP55_4RunAgain(t *testing.T) {
	shapes := []shape.Shape{{Kind: shape.Saw, Low: 0, High: 900, Period: 37, Phase: 3}, {Kind: shape.Pulse, Low: 0, High: 2000, Period: 50}, {Kind: shape.Step, Low: 10, High: 300, Period: 90, Phase: -7}}
	long := usual
	long.Window, long.Hold = 200, 100
	for _, p := range []api.Policy{usual, long, {Min: 0, Max: 3, Target: 100, Window: 1}, {Min: 20, Max: 30, Target: 200, Tolerance: 500, Window: 3}} {
		for n := range len(shapes) + 1 {
			rows, err := Run(p, 300, shapes[:n]...)
			if !slices.Equal(rows, again(p, 300, shapes[:n]...)) || err != api.OK {
				t.Fatalf("%+v, %d shapes", p, n)
			}
			total := Total(rows)
			if total.Comes != total.Serves+total.Left {
				t.Error("what came was served, or is left", total)
			}
			for _, r := range rows {
				if r.Replicas < p.Min || r.Replicas > p.Max || p.Min == 20 && r.Left != 0 {
					t.Fatal(p, r)
				}
			}
		}
	}
}

func TestP55_2Ends(t *testing.T) {
	p := api.Policy{Min: 0, Max: 1 << 30, Target: 1, Window: 1}
	l, err := Run(p, 3, flat(most), flat(most))
	if want := []Row{{0, most, 0, 0, most}, {1, most, 1 << 30, 1 << 30, most - 1<<30}, {2, most, 1 << 30, 1 << 30, most - 1<<30}}; !slices.Equal(l, want) || err != api.OK {
		t.Error(l, err)
	}
	p.Target, p.Min = most, 5
	if l, _ := Run(p, 2, flat(most)); l[1].Serves != most || l[1].Left != 0 {
		t.Error(l)
	}
}

func TestP55_3TotalAndLongest(t *testing.T) {
	l := []Row{{1, 10, 3, 5, 5}, {2, 20, 9, 25, 0}, {7, most, 4, most, 2}, {8, 1, 1, 1, -3}, {6, 0, 0, 0, 1}}
	if got := Total(l); got != (Row{6, most, 9, most, 1}) {
		t.Error(got)
	}
	if Total(nil) != (Row{}) || Total([]Row{{Tick: 5, Replicas: -7, Comes: -1, Serves: -2, Left: -3}}) != (Row{5, -1, 0, -2, -3}) {
		t.Error("totals")
	}
	if Longest(l) != 3 || Longest(nil) != 0 || Longest(l[:2]) != 1 || Longest(l[1:2]) != 0 || Longest([]Row{{Left: 1}, {Left: 1}, {}, {Left: 1}}) != 2 {
		t.Error("Longest")
	}
}
