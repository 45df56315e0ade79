package trace

import (
	"math"
	"slices"
	"testing"

	"flywheel/api"
)

var a, b = api.Key{Hi: 1}, api.Key{Hi: 2}

func call(kind, task, nth int) Event {
	return Event{Kind: kind, Task: task, Nth: nth, Call: api.Call{Kind: nth}, Reply: api.Reply{Epoch: int64(nth)}}
}

func work(kind, task int, k api.Key) Event {
	return Event{Kind: kind, Task: task, Key: k}
}

func client(task int, calls int) []Event {
	var l []Event
	for i := range calls {
		l = append(l, call(Called, task, i), call(Point, task, i), call(Returned, task, i))
	}
	return l
}

func worker(task int) []Event {
	return []Event{work(Took, task, a), work(Saw, task, a), work(Noted, task, a), work(Gave, task, a), work(Took, task, b), work(Saw, task, b), work(Gave, task, b), work(Took, task, b)}
}

func mixed(x, y []Event) []Event {
	var l []Event
	for i := range max(len(x), len(y)) {
		if i < len(x) {
			l = append(l, x[i])
		}
		if i < len(y) {
			l = append(l, y[i])
		}
	}
	return l
}

func TestP30_1RightAsFarAsItGoes(t *testing.T) {
	for _, l := range [][]Event{client(0, 3), worker(31), mixed(client(3, 4), worker(4)), mixed(client(0, 2), client(1, 2)), {work(Took, 0, api.Key{}), work(Saw, 0, api.Key{}), work(Gave, 0, api.Key{})}} {
		for n := range len(l) + 1 {
			if !Right(l[:n]) {
				t.Errorf("%v is right", l[:n])
			}
		}
	}
}

func TestP30_1NotRight(t *testing.T) {
	keyed := call(Point, 0, 0)
	keyed.Key = a
	keyedFirst, keyedLast := call(Called, 0, 0), call(Returned, 0, 0)
	keyedFirst.Key, keyedLast.Key = a, b
	counted := work(Saw, 0, a)
	counted.Nth = 1
	countedFirst := work(Took, 0, a)
	countedFirst.Nth = 1
	took, saw := work(Took, 0, a), work(Saw, 0, a)
	keyedNext := call(Called, 0, 1)
	keyedNext.Key = a
	countedNoted, countedGave := work(Noted, 0, a), work(Gave, 0, a)
	countedNoted.Nth, countedGave.Nth = 1, 1
	for i, l := range [][]Event{
		{call(Returned, 0, 0)}, {call(Point, 0, 0)}, {saw}, {work(Noted, 0, a)}, {work(Gave, 0, a)}, {{}}, {{Kind: 8}}, {call(Called, -1, 0)}, {call(Called, 32, 0)}, {call(Called, math.MaxInt64, 0)},
		{call(Called, 0, 1)}, {call(Called, 0, -1)}, {keyedFirst}, {countedFirst},
		{call(Called, 0, 0), call(Returned, 0, 0)}, {call(Called, 0, 0), call(Called, 0, 1)}, {call(Called, 0, 0), call(Point, 0, 1)}, {call(Called, 0, 0), keyed}, {call(Called, 0, 0), took}, {call(Called, 0, 0), {}},
		{call(Called, 0, 0), call(Point, 0, 0), call(Point, 0, 0)}, {call(Called, 0, 0), call(Point, 0, 0), call(Returned, 0, 1)}, {call(Called, 0, 0), call(Point, 0, 0), keyedLast},
		append(client(0, 1), call(Called, 0, 0)), append(client(0, 1), call(Called, 0, 2)), append(client(0, 1), took), append(client(0, 1), call(Point, 0, 1)),
		{took, work(Noted, 0, a)}, {took, work(Gave, 0, a)}, {took, work(Saw, 0, b)}, {took, counted}, {took, took}, {took, call(Called, 0, 0)}, {took, {Kind: 8, Key: a}},
		append(client(0, 1), keyedNext), {took, saw, countedNoted}, {took, saw, countedGave}, {took, saw, work(Noted, 0, a), countedGave}, {took, saw, work(Gave, 0, a), countedFirst},
		{took, saw, saw}, {took, saw, work(Noted, 0, b)}, {took, saw, work(Gave, 0, b)}, {took, saw, took}, {took, saw, work(Noted, 0, a), work(Noted, 0, a)}, {took, saw, work(Noted, 0, a), work(Gave, 0, b)},
		{took, saw, work(Gave, 0, a), saw}, {took, saw, work(Gave, 0, a), call(Called, 0, 0)}, {took, work(Saw, 1, a)},
	} {
		if Right(l) {
			t.Errorf("%d: %v is not right", i, l)
		}
		if Right(append(client(7, 1), l...)) {
			t.Errorf("%d: behind another task", i)
		}
	}
}

func TestP30_2Kept(t *testing.T) {
	l := mixed(client(3, 2), worker(4))
	if !slices.Equal(Of(l, 3), client(3, 2)) || !slices.Equal(Of(l, 4), worker(4)) || len(Of(l, 5)) != 0 || len(Of(nil, 3)) != 0 {
		t.Error("Of")
	}
	if !slices.Equal(Kind(l, Took), []Event{work(Took, 4, a), work(Took, 4, b), work(Took, 4, b)}) || len(Kind(l, 9)) != 0 {
		t.Error("Kind")
	}
	if !slices.Equal(Points(l), []Event{call(Point, 3, 0), work(Noted, 4, a), call(Point, 3, 1)}) {
		t.Error("Points", Points(l))
	}
	if !slices.Equal(Replies(l, 3), []api.Reply{{}, {Epoch: 1}}) || len(Replies(l, 4)) != 0 {
		t.Error("Replies")
	}
	kept := slices.Clone(l)
	Of(l, 3)[0].Nth = 99
	if !slices.Equal(l, kept) {
		t.Error("answers share memory")
	}
}

func TestP30_3FindAndAhead(t *testing.T) {
	l := mixed(client(3, 2), worker(4))
	if s := Find(l, 3, 1); s != (Span{6, 8, 10}) {
		t.Error(s)
	}
	if s := Find(l[:9], 3, 1); s != (Span{6, 8, -1}) {
		t.Error(s)
	}
	if Find(l, 3, 2) != (Span{-1, -1, -1}) || Find(l, 4, 0) != (Span{-1, -1, -1}) || Find(nil, 0, 0) != (Span{-1, -1, -1}) {
		t.Error("nowhere")
	}
	if s := Find(append(client(0, 1), client(0, 1)...), 0, 0); s != (Span{3, 4, 5}) {
		t.Error("the last one counts:", s)
	}
	for _, c := range []struct {
		a, b Span
		want bool
	}{{Span{0, 1, 2}, Span{3, 4, 5}, true}, {Span{0, 1, 3}, Span{3, 4, 5}, false}, {Span{3, 4, 5}, Span{0, 1, 2}, false}, {Span{-1, -1, -1}, Span{3, 4, 5}, false}, {Span{0, 1, 2}, Span{-1, 0, 9}, false}, {Span{-1, -1, 0}, Span{1, -1, -1}, true}, {Span{0, 0, -5}, Span{-2, 0, 0}, false}} {
		if Ahead(c.a, c.b) != c.want {
			t.Errorf("%v, %v", c.a, c.b)
		}
	}
}

func TestP30_4OrderOfCalls(t *testing.T) {
	l := mixed(client(0, 5), client(1, 4))
	for task := range 2 {
		for _, kind := range []int{Called, Point, Returned} {
			for i, e := range Kind(Of(l, task), kind) {
				if e.Nth != i {
					t.Error(e)
				}
			}
		}
	}
	if Called != 1 || Point != 2 || Returned != 3 || Took != 4 || Saw != 5 || Noted != 6 || Gave != 7 {
		t.Error("the kinds of events")
	}
}
