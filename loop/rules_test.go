package loop_test

import (
	"math"
	"math/rand"
	"reflect"
	"runtime"
	"runtime/debug"
	"slices"
	"strings"
	"testing"

	"flywheel/api"
	"flywheel/client"
	"flywheel/history"
	"flywheel/monitor"
	"flywheel/policy"
	"flywheel/sched"
	"flywheel/worker"
)

// The tests of this file hold R1 and R2 against the calls of all layers: whatever they are given, they do not panic, change nothing that they are given, and share no memory with it, or with what they answered ahead.

// call is a function, or a method, which has its object as its first argument.
type call struct {
	name   string
	f      reflect.Value
	method string
}

func allCalls() []call {
	var l []call
	for _, f := range functions() {
		v := reflect.ValueOf(f)
		l = append(l, call{name: runtime.FuncForPC(v.Pointer()).Name(), f: v})
	}
	for _, t := range receivers() {
		for i := range t.NumMethod() {
			l = append(l, call{name: t.String() + "." + t.Method(i).Name, f: t.Method(i).Func, method: t.Method(i).Name})
		}
	}
	return l
}

var numbers = []int64{0, 1, 2, 3, 31, 32, 33, 63, 64, 65, 255, 256, 257, 999, 1000, 1001, 4096, -1, -2, -1000, 1 << 20, 1 << 30, 1<<30 + 1, 1 << 31, 1 << 32, 1 << 62, -1 << 62, math.MaxInt64, math.MaxInt64 - 1, math.MinInt64, math.MinInt64 + 1}

var texts = []string{
	"", " ", "a", "b", "web-1", "A", "aaaaaaaaaaaaaaaaaaaaa", "a b", "\xff", "min 1 max 10 target 100 tolerance 100 window 5 hold 3", "ingest a 1 5", "set a min 1 max 10 target 100 tolerance 100 window 5 hold 3", "look 1 a 9 9", "snap",
	"shut", "store 1 4 4 4", "store 1 4 4 4\nclient\nread a\nworkers 1\npicks 1 2 3\n", "decide a", "try a", "load a", "ids", "mark", "changes", "saw 0 10 5 0", "1 2 3", "-5", "99999999999999999999", "\n", "#\n",
}

// maker makes arguments; its pool has objects and lists that were answered.
type maker struct {
	*rand.Rand
	pool map[reflect.Type][]reflect.Value
}

// usual makes what may be, of some types.
func (m *maker) usual(t reflect.Type) (reflect.Value, bool) {
	switch t {
	case reflect.TypeFor[api.Policy]():
		p := policy.Usual()
		p.Target = 1 + int64(m.Intn(300))
		return reflect.ValueOf(p), true
	case reflect.TypeFor[api.Config]():
		return reflect.ValueOf(api.Config{Stripes: 1 << m.Intn(4), Samples: 1 + m.Intn(5), Loads: 1 + m.Intn(4), History: 1 + m.Intn(4)}), true
	case reflect.TypeFor[api.Call]():
		return reflect.ValueOf(api.Call{Kind: 1 + m.Intn(8), Id: texts[2+m.Intn(3)], Tick: int64(m.Intn(9)), Value: int64(m.Intn(900)), Handle: m.Intn(4), Policy: policy.Usual()}), true
	}
	return reflect.Value{}, false
}

// task makes a task of a layer, or none.
func (m *maker) task() reflect.Value {
	v := reflect.New(reflect.TypeFor[sched.Task]()).Elem()
	switch m.Intn(3) {
	case 0:
		v.Set(m.value(reflect.TypeFor[*client.Client](), 1))
	case 1:
		v.Set(m.value(reflect.TypeFor[*worker.Worker](), 1))
	}
	return v
}

func (m *maker) number() int64 {
	if m.Intn(2) == 0 {
		return int64(m.Intn(10))
	}
	return numbers[m.Intn(len(numbers))]
}

func (m *maker) value(t reflect.Type, depth int) reflect.Value {
	if v, ok := m.usual(t); ok && m.Intn(2) == 0 {
		return v
	}
	v := reflect.New(t).Elem()
	switch t.Kind() {
	case reflect.Bool:
		v.SetBool(m.Intn(2) == 0)
	case reflect.Int, reflect.Int64:
		v.SetInt(m.number())
	case reflect.Uint64, reflect.Uint32:
		v.SetUint(uint64(m.number()))
	case reflect.Uint8:
		v.SetUint(uint64(m.Intn(256)))
	case reflect.String:
		v.SetString(texts[m.Intn(len(texts))])
	case reflect.Slice:
		return m.list(t, depth)
	case reflect.Struct:
		for i := range t.NumField() {
			v.Field(i).Set(m.value(t.Field(i).Type, depth+1))
		}
	case reflect.Interface:
		return m.task()
	case reflect.Pointer:
		if p := m.pool[t]; len(p) > 0 && m.Intn(8) > 0 {
			return p[m.Intn(len(p))]
		}
		if m.Intn(2) == 0 {
			v.Set(reflect.New(t.Elem()))
		}
	case reflect.Func:
		yes := reflect.ValueOf(m.Intn(3) > 0)
		v.Set(reflect.MakeFunc(t, func([]reflect.Value) []reflect.Value { return []reflect.Value{yes} }))
	}
	return v
}

// list makes a list with something behind its length, or one that was answered.
func (m *maker) list(t reflect.Type, depth int) reflect.Value {
	if p := m.pool[t]; len(p) > 0 && m.Intn(3) == 0 {
		return copied(p[m.Intn(len(p))])
	}
	n := m.Intn(6) / (1 + depth/2)
	v := reflect.MakeSlice(t, n+2, n+2)
	for i := range n + 2 {
		v.Index(i).Set(m.value(t.Elem(), depth+1))
	}
	return v.Slice(0, n)
}

// keep lets objects and lists be arguments later on.
func (m *maker) keep(v reflect.Value) {
	t := v.Type()
	if t.Kind() == reflect.Pointer && !v.IsNil() || t.Kind() == reflect.Slice && v.Len() > 0 && v.Len() < 50 {
		m.pool[t] = append(m.pool[t], v)
		if len(m.pool[t]) > 40 {
			m.pool[t] = m.pool[t][1:]
		}
	}
}

// plain tells whether there are no objects in values of the type.
func plain(t reflect.Type) bool {
	switch t.Kind() {
	case reflect.Slice, reflect.Array:
		return plain(t.Elem())
	case reflect.Struct:
		for i := range t.NumField() {
			if !plain(t.Field(i).Type) {
				return false
			}
		}
	case reflect.Pointer, reflect.Func, reflect.Interface, reflect.Map:
		return false
	}
	return true
}

// copied is a value that shares no memory, with what is behind the lengths of lists.
func copied(v reflect.Value) reflect.Value {
	c := reflect.New(v.Type()).Elem()
	c.Set(v)
	if !plain(v.Type()) {
		return c
	}
	switch v.Kind() {
	case reflect.Slice:
		if v.IsNil() {
			return c
		}
		full := v.Slice(0, v.Cap())
		c = reflect.MakeSlice(v.Type(), v.Cap(), v.Cap())
		for i := range full.Len() {
			c.Index(i).Set(copied(full.Index(i)))
		}
		return c.Slice(0, v.Len())
	case reflect.Struct:
		for i := range v.NumField() {
			c.Field(i).Set(copied(v.Field(i)))
		}
	}
	return c
}

// whole is the list up to its capacity.
func whole(v reflect.Value) reflect.Value {
	if v.Kind() == reflect.Slice {
		return v.Slice(0, v.Cap())
	}
	return v
}

// scribble writes over all lists in the value.
func (m *maker) scribble(v reflect.Value) {
	if !plain(v.Type()) {
		return
	}
	switch v.Kind() {
	case reflect.Slice:
		full := whole(v)
		for i := range full.Len() {
			m.scribble(full.Index(i))
			full.Index(i).Set(m.value(v.Type().Elem(), 1))
		}
	case reflect.Struct:
		for i := range v.NumField() {
			m.scribble(v.Field(i))
		}
	}
}

// arguments makes all of them; methods that an object has of one that it embeds are promised of objects that are not nil alone.
func (m *maker) arguments(t reflect.Type) []reflect.Value {
	var args []reflect.Value
	for i := range t.NumIn() {
		a := m.value(t.In(i), 0)
		if k := t.In(i); a.Kind() == reflect.Pointer && a.IsNil() && (k == reflect.TypeFor[*history.History]() || k == reflect.TypeFor[*monitor.Monitor]()) {
			a = reflect.New(k.Elem())
		}
		args = append(args, a)
	}
	return args
}

func do(f reflect.Value, args []reflect.Value) []reflect.Value {
	if f.Type().IsVariadic() {
		return f.CallSlice(args)
	}
	return f.Call(args)
}

// told are the methods that only tell what their object has.
const told = " List Keys Waiting Busy Dirty Samples Past Sleeping Events Ids Bytes Live Outcome "

func (m *maker) try(t *testing.T, c call) {
	args := m.arguments(c.f.Type())
	defer func() {
		if e := recover(); e != nil {
			t.Fatalf("%s panics: %v\n%s", c.name, e, debug.Stack())
		}
	}()
	var before []reflect.Value
	for _, a := range args {
		before = append(before, copied(a))
	}
	answers := do(c.f, args)
	var kept []reflect.Value
	for _, x := range answers {
		kept = append(kept, copied(x))
		m.scribble(x)
	}
	for i, a := range args {
		if plain(a.Type()) && !reflect.DeepEqual(whole(a).Interface(), whole(before[i]).Interface()) {
			t.Errorf("%s changes what it is given, or shares memory with it", c.name)
		}
	}
	if strings.Contains(told, " "+c.method+" ") && len(args) == 1 {
		for i, x := range do(c.f, args) {
			if plain(x.Type()) && !reflect.DeepEqual(copied(x).Interface(), kept[i].Interface()) && x.Kind() != reflect.Slice || x.Kind() == reflect.Slice && plain(x.Type()) && !alike(x, kept[i]) {
				t.Errorf("%s shares memory with what it answered ahead", c.name)
			}
		}
	}
	for _, x := range kept {
		m.keep(x)
	}
}

// alike tells whether two lists have the same, a nil one being as an empty one.
func alike(a, b reflect.Value) bool {
	if a.Len() != b.Len() {
		return false
	}
	for i := range a.Len() {
		if !reflect.DeepEqual(a.Index(i).Interface(), b.Index(i).Interface()) {
			return false
		}
	}
	return true
}

func TestR1AndR2(t *testing.T) {
	all := allCalls()
	had := make([]int, len(all))
	for seed := range int64(4) {
		m := &maker{rand.New(rand.NewSource(seed)), map[reflect.Type][]reflect.Value{}}
		for range 8000 {
			i := m.Intn(len(all))
			had[i]++
			m.try(t, all[i])
		}
	}
	if len(all) < 300 || slices.Min(had) == 0 {
		t.Error("some calls were not tried:", len(all))
	}
}
