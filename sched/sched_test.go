package sched

import (
	"math"
	"reflect"
	"testing"
)

// fake has so many steps to do, and waits while it is shut.
type fake struct {
	left  int
	shut  bool
	done  int
	opens *fake
}

func (f *fake) Over() bool  { return f.left == 0 }
func (f *fake) Ready() bool { return !f.shut }
func (f *fake) Step() {
	f.left--
	f.done++
	if f.opens != nil {
		f.opens.shut = false
	}
}

func tasks(left ...int) []Task {
	var l []Task
	for _, n := range left {
		l = append(l, &fake{left: n})
	}
	return l
}

func TestP27_1First(t *testing.T) {
	for _, c := range [][3]int{{-1, 3, 2}, {0, 3, 0}, {5, 3, 2}, {-3, 3, 0}, {-4, 3, 2}, {7, 1, 0}, {5, 0, -1}, {5, -2, -1}, {math.MinInt64, 3, 1}, {math.MinInt64, math.MaxInt64, math.MaxInt64 - 1}, {math.MaxInt64, 2, 1}, {3, math.MinInt64, -1}} {
		if got := First(c[0], c[1]); got != c[2] {
			t.Errorf("First(%d, %d) = %d", c[0], c[1], got)
		}
	}
}

func TestP27_1NextAndOpen(t *testing.T) {
	l := []Task{&fake{left: 1}, nil, &fake{left: 0}, &fake{left: 5, shut: true}, &fake{left: 2}}
	for pick, want := range map[int]int{0: 0, 1: 4, 2: 4, 3: 4, 4: 4, 5: 0, -1: 4, -5: 0, math.MinInt64: 4} {
		if got := Next(l, pick); got != want {
			t.Errorf("Next of %d: %d", pick, got)
		}
	}
	if Open(l) != 3 || Open(nil) != 0 || Open([]Task{nil}) != 0 {
		t.Error(Open(l))
	}
	for _, l := range [][]Task{nil, {nil}, {&fake{}, nil}, {&fake{left: 1, shut: true}}} {
		if Next(l, 0) != -1 || Next(l, -7) != -1 {
			t.Error("nobody is next")
		}
	}
}

func TestP27_2Run(t *testing.T) {
	for _, c := range []struct {
		l     []Task
		picks []int
		want  Result
	}{
		{nil, []int{1, 2}, Result{Steps: []int{}}},
		{tasks(2, 2), nil, Result{Steps: []int{0, 0}}},
		{tasks(2, 2), []int{1, 1, 1}, Result{Used: 3, Steps: []int{1, 2}}},
		{tasks(1, 1), []int{0, 0, 0, 0}, Result{Used: 2, Steps: []int{1, 1}}},
		{[]Task{nil, &fake{left: 3}}, []int{0, 0}, Result{Used: 2, Steps: []int{0, 2}}},
		{[]Task{&fake{left: 1, shut: true}, &fake{left: 1}}, []int{0, 0}, Result{Used: 1, Steps: []int{0, 1}, Stuck: true}},
		{[]Task{&fake{left: 1, shut: true}, &fake{left: 1}}, []int{0}, Result{Used: 1, Steps: []int{0, 1}, Stuck: true}},
		{[]Task{&fake{left: 1, shut: true}, &fake{left: 1}}, nil, Result{Steps: []int{0, 0}}},
	} {
		if got := Run(c.l, c.picks); !reflect.DeepEqual(got, c.want) {
			t.Errorf("%v: %+v, want %+v", c.picks, got, c.want)
		}
	}
	waits := &fake{left: 2, shut: true}
	if got := Run([]Task{waits, &fake{left: 1, opens: waits}}, []int{0, 0, 0}); !reflect.DeepEqual(got, Result{Used: 3, Steps: []int{2, 1}}) {
		t.Errorf("one that is opened: %+v", got)
	}
}

func TestP27_2Watch(t *testing.T) {
	var seen []int
	l := tasks(5, 5)
	got := Watch(l, []int{0, 1, 0, 1, 0}, func(used int) bool {
		seen = append(seen, used)
		if l[0].(*fake).done+l[1].(*fake).done != used {
			t.Error("see is asked behind each step")
		}
		return used < 3
	})
	if !reflect.DeepEqual(got, Result{Used: 3, Steps: []int{2, 1}}) || !reflect.DeepEqual(seen, []int{1, 2, 3}) {
		t.Errorf("%+v, %v", got, seen)
	}
	if got := Watch(tasks(1, 1), []int{0, 0, 0}, nil); !reflect.DeepEqual(got, Result{Used: 2, Steps: []int{1, 1}}) {
		t.Errorf("%+v", got)
	}
	if got := Watch([]Task{&fake{left: 2}, &fake{left: 1, shut: true}}, []int{0, 0, 0}, func(int) bool { return false }); !reflect.DeepEqual(got, Result{Used: 1, Steps: []int{1, 0}}) {
		t.Errorf("%+v", got)
	}
}

func TestP27_3InTwoParts(t *testing.T) {
	picks := []int{4, 2, 7, -1, 0, 0, 3, 1, 9, 9, 5}
	whole := Run(tasks(3, 4, 2, 5), picks)
	for i := range picks {
		l := tasks(3, 4, 2, 5)
		a, b := Run(l, picks[:i]), Run(l, picks[i:])
		sum := Result{Used: a.Used + b.Used, Steps: make([]int, 4), Stuck: b.Stuck}
		all := 0
		for j := range sum.Steps {
			sum.Steps[j] = a.Steps[j] + b.Steps[j]
			all += sum.Steps[j]
		}
		if !reflect.DeepEqual(sum, whole) || all != whole.Used {
			t.Errorf("cut at %d: %+v, want %+v", i, sum, whole)
		}
	}
}
