package fifo

import (
	"math"
	"slices"
	"testing"
)

func filled(l ...int) *Queue[int] {
	var q Queue[int]
	for _, x := range l {
		q.Put(x)
	}
	return &q
}

func TestP23_1PutGetLen(t *testing.T) {
	var q Queue[int]
	if q.Len() != 0 || !q.Put(5) || !q.Put(6) || q.Len() != 2 {
		t.Error("Put")
	}
	if x, ok := q.Get(); x != 5 || !ok || q.Len() != 1 {
		t.Error(x, ok)
	}
	if x, ok := q.First(); x != 6 || !ok || q.Len() != 1 {
		t.Error(x, ok)
	}
	q.Get()
	if x, ok := q.Get(); x != 0 || ok {
		t.Error(x, ok)
	}
	if x, ok := q.First(); x != 0 || ok {
		t.Error(x, ok)
	}
	if !q.Put(7) || q.Len() != 1 {
		t.Error("Put behind all went out")
	}
}

func TestP23_1Nil(t *testing.T) {
	var q *Queue[string]
	x, ok := q.Get()
	y, too := q.First()
	if q.Len() != 0 || q.Put("a") || x != "" || ok || y != "" || too || len(q.List()) != 0 || q.Has("") || q.Drop("") {
		t.Error("a nil queue has something")
	}
	for range q.All() {
		t.Error("a nil queue goes through something")
	}
}

func TestP23_2AllAndList(t *testing.T) {
	q := filled(4, 5, 5, 6)
	if !slices.Equal(q.List(), []int{4, 5, 5, 6}) || !slices.Equal(slices.Collect(q.All()), q.List()) || len(filled().List()) != 0 {
		t.Error(q.List())
	}
	var seen []int
	for x := range q.All() {
		seen = append(seen, x)
		q.Get()
		if q.Put(9); len(seen) == 3 {
			break
		}
	}
	if !slices.Equal(seen, []int{4, 5, 5}) || !slices.Equal(q.List(), []int{6, 9, 9, 9}) {
		t.Error(seen, q.List())
	}
	p := filled(1, 2, 3)
	seen = nil
	for x := range p.All() {
		seen = append(seen, x)
		p.Drop(2)
	}
	if !slices.Equal(seen, []int{1, 2, 3}) {
		t.Error("what is dropped meanwhile:", seen)
	}
	q.List()[0] = 77
	if x, _ := q.First(); x != 6 {
		t.Error("a list shares memory")
	}
}

func TestP23_2HasAndDrop(t *testing.T) {
	q := filled(1, 2, 1, 3)
	if !q.Has(1) || !q.Has(3) || q.Has(0) || q.Has(7) || q.Drop(7) {
		t.Error("Has")
	}
	if !q.Drop(1) || !slices.Equal(q.List(), []int{2, 1, 3}) || !q.Has(1) || !q.Drop(1) || q.Has(1) || q.Drop(1) || !q.Drop(3) || !slices.Equal(q.List(), []int{2}) {
		t.Error(q.List())
	}
}

func TestP23_2ThingsThatCannotBeCompared(t *testing.T) {
	var q Queue[any]
	q.Put([]int{1})
	q.Put(5)
	if q.Has([]int{1}) || !q.Has(5) || q.Drop([]int{1}) || !q.Drop(5) || q.Len() != 1 {
		t.Error("lists are like nothing")
	}
	var f Queue[float64]
	f.Put(math.NaN())
	if f.Has(math.NaN()) || f.Drop(math.NaN()) || f.Len() != 1 {
		t.Error("what is not like itself")
	}
}

func TestP23_3Order(t *testing.T) {
	var q Queue[int]
	var out []int
	for i := range 1000 {
		q.Put(i)
		if i%3 == 2 {
			x, _ := q.Get()
			out = append(out, x)
		}
	}
	for q.Len() > 0 {
		x, _ := q.Get()
		out = append(out, x)
	}
	for i, x := range out {
		if i != x {
			t.Fatal(i, x)
		}
	}
	if len(out) != 1000 {
		t.Error(len(out))
	}
}
