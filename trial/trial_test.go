package trial

import (
	"math"
	"reflect"
	"testing"

	"flywheel/api"
	"flywheel/decide"
	"flywheel/policy"
)

const most, least = math.MaxInt64, math.MinInt64

func did(pairs ...int64) []api.Advice {
	var l []api.Advice
	for i := 0; i < len(pairs); i += 2 {
		l = append(l, api.Advice{Replicas: pairs[i], Load: pairs[i+1]})
	}
	return l
}

func TestP44_1Judge(t *testing.T) {
	p := policy.Usual()
	for i, c := range []struct {
		target int64
		l      []api.Advice
		want   Result
	}{
		{100, nil, Result{}}, {100, did(2, 150), Result{Least: 2, Most: 2, Spare: 50}}, {100, did(1, 150), Result{Least: 1, Most: 1, Short: 50}}, {100, did(2, 200), Result{Least: 2, Most: 2}},
		{100, did(2, 150, 5, 900, 3, 270, 4, 0), Result{Changes: 3, Turns: 2, Least: 2, Most: 5, Spare: 480, Short: 400}}, {100, did(-3, 0, -2, 0), Result{Changes: 1, Least: -3, Most: -2, Short: 500}},
		{most, did(5, 0, 5, 0), Result{Least: 5, Most: 5, Spare: most}}, {most, did(-5, 5, -5, 5), Result{Least: -5, Most: -5, Short: most}}, {0, did(7, least), Result{Least: 7, Most: 7, Spare: most}},
	} {
		p.Target = c.target
		c.want.Advice = c.l
		got := Judge(p, c.l)
		if len(got.Advice) == 0 {
			got.Advice = nil
		}
		if !reflect.DeepEqual(got, c.want) {
			t.Errorf("%d: %+v, want %+v", i, got, c.want)
		}
	}
	l := did(1, 1)
	Judge(p, l).Advice[0].Load = 77
	if l[0].Load != 1 {
		t.Error("Judge shares memory")
	}
	if got := Judge(api.Policy{}, did(2, 3)); got.Short != 3 {
		t.Error("any policy", got)
	}
}

func TestP44_2Run(t *testing.T) {
	p := policy.Usual()
	var l []api.Sample
	for i := range int64(30) {
		l = append(l, api.Sample{Tick: i, Value: i * i % 700})
	}
	for _, room := range [][2]int{{1, 1}, {5, 3}, {256, 64}} {
		want := Judge(p, decide.Follow(p, l, room[0], room[1]))
		if got, err := Run(p, l, room[0], room[1]); !reflect.DeepEqual(got, want) || err != api.OK || len(got.Advice) != 30 || got.Changes == 0 {
			t.Error(room, got, err)
		}
	}
	for _, room := range [][2]int{{0, 1}, {1, 0}, {257, 1}, {1, 65}, {-1, 5}, {5, -1}, {most, 5}} {
		if got, err := Run(p, l, room[0], room[1]); !reflect.DeepEqual(got, Result{}) || err != api.ErrArg {
			t.Error(room, got, err)
		}
		if _, err := Run(api.Policy{}, l, room[0], room[1]); err != api.ErrPolicy {
			t.Error("what is named first", err)
		}
	}
}

func TestP44_3AndP44_4Cmp(t *testing.T) {
	l := []Result{
		{}, {Turns: 1}, {Turns: 2}, {Changes: 1}, {Changes: 1, Turns: 1}, {Changes: 2}, {Spare: 1}, {Spare: 1, Turns: 1}, {Spare: 1, Changes: 7}, {Spare: 2}, {Short: 1}, {Short: 1, Changes: 1}, {Short: 1, Spare: 5}, {Short: 2}, {Short: most},
	}
	for i, a := range l {
		for j, b := range l {
			b.Least, b.Most, b.Advice = 7, 9, did(1, 1)
			want := 0
			if i < j {
				want = -1
			} else if i > j {
				want = 1
			}
			if got := Cmp(a, b); got != want {
				t.Errorf("%+v, %+v: %d", a, b, got)
			}
		}
	}
}

func TestP44_4MinIsMax(t *testing.T) {
	p := policy.Usual()
	p.Min, p.Max = 4, 4
	got, err := Run(p, []api.Sample{{Tick: 1, Value: 5}, {Tick: 2, Value: 5000}, {Tick: 3, Value: 0}}, 2, 2)
	if err != api.OK || got.Changes != 0 || got.Turns != 0 || got.Least != 4 || got.Most != 4 {
		t.Error(got, err)
	}
}
