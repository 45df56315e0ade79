package workq

import (
	"math/rand"
	"slices"
	"testing"

	"flywheel/api"
)

func key(n int) api.Key {
	return api.Key{Hi: uint64(n), Lo: uint64(100 - n)}
}

var a, b, c = key(1), key(2), key(3)

func (q *Queue) expect(t *testing.T, waiting, busy, dirty []api.Key) {
	t.Helper()
	if !slices.Equal(q.Waiting(), waiting) || !slices.Equal(q.Busy(), busy) || !slices.Equal(q.Dirty(), dirty) {
		t.Errorf("%v, %v, %v", q.Waiting(), q.Busy(), q.Dirty())
	}
}

func TestP24_1Nil(t *testing.T) {
	var q *Queue
	k, ok := q.Get()
	again, err := q.Done(a)
	if q.Add(a) || k != (api.Key{}) || ok || again || err != api.ErrNone || q.Shut() || q.Over() || len(q.Waiting())+len(q.Busy())+len(q.Dirty()) != 0 {
		t.Error("a nil queue has something")
	}
}

func TestP24_1AddGetDone(t *testing.T) {
	var q Queue
	q.expect(t, nil, nil, nil)
	if k, ok := q.Get(); k != (api.Key{}) || ok {
		t.Error(k, ok)
	}
	if !q.Add(b) || q.Add(b) || !q.Add(a) {
		t.Error("Add")
	}
	q.expect(t, []api.Key{b, a}, nil, []api.Key{a, b})
	if k, ok := q.Get(); k != b || !ok {
		t.Error(k, ok)
	}
	q.expect(t, []api.Key{a}, []api.Key{b}, []api.Key{a})
	if q.Add(b) || q.Add(b) {
		t.Error("Add of a key that is busy")
	}
	q.expect(t, []api.Key{a}, []api.Key{b}, []api.Key{a, b})
	if again, err := q.Done(b); !again || err != api.OK {
		t.Error(again, err)
	}
	q.expect(t, []api.Key{a, b}, nil, []api.Key{a, b})
	q.Get()
	if again, err := q.Done(a); again || err != api.OK {
		t.Error(again, err)
	}
	for _, k := range []api.Key{a, b, c} {
		if again, err := q.Done(k); again || err != api.ErrNone {
			t.Error(again, err)
		}
	}
	q.expect(t, []api.Key{b}, nil, []api.Key{b})
}

func TestP24_3ShutAndOver(t *testing.T) {
	var q Queue
	if q.Over() {
		t.Error("a queue that isn't shut is never over")
	}
	q.Add(a)
	q.Add(b)
	q.Get()
	q.Add(a)
	if q.Over() || !q.Shut() || q.Shut() || q.Over() || q.Add(c) {
		t.Error("Shut")
	}
	q.expect(t, []api.Key{b}, []api.Key{a}, []api.Key{a, b})
	if again, err := q.Done(a); !again || err != api.OK {
		t.Error("a dirty key waits, though the queue is shut")
	}
	q.Get()
	if q.Over() {
		t.Error("a key waits still")
	}
	if q.Get(); !q.Over() {
		t.Error("it is over")
	}
	var empty Queue
	if empty.Shut(); !empty.Over() || empty.Add(a) || empty.Shut() {
		t.Error("an empty queue that is shut")
	}
}

func TestP24_4AnswersAreNew(t *testing.T) {
	var q Queue
	q.Add(a)
	q.Add(b)
	q.Get()
	q.Waiting()[0], q.Busy()[0], q.Dirty()[0] = c, c, c
	q.expect(t, []api.Key{b}, []api.Key{a}, []api.Key{b})
}

func TestP24_5Always(t *testing.T) {
	r := rand.New(rand.NewSource(1))
	for range 50 {
		var q Queue
		due := map[api.Key]bool{} // added behind its Get, and not got yet
		for range 300 {
			k := key(r.Intn(5))
			switch r.Intn(5) {
			case 0, 1:
				q.Add(k)
				due[k] = true
			case 2:
				if got, ok := q.Get(); ok {
					due[got] = false
				}
			default:
				q.Done(k)
			}
			waiting, busy := q.Waiting(), q.Busy()
			for i, k := range waiting {
				if slices.Contains(waiting[:i], k) || slices.Contains(busy, k) || !due[k] {
					t.Fatal("a key waits twice, or while it is busy, or for nothing")
				}
			}
			for i := range 5 {
				if slices.Contains(q.Dirty(), key(i)) != due[key(i)] || due[key(i)] && !slices.Contains(waiting, key(i)) && !slices.Contains(busy, key(i)) {
					t.Fatal("a key is forgotten")
				}
			}
		}
	}
}
