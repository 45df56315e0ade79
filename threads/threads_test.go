package threads

import (
	"fmt"
	"math/rand"
	"reflect"
	"slices"
	"testing"

	"flywheel/api"
	"flywheel/ident"
	"flywheel/policy"
	"flywheel/route"
	"flywheel/store"
)

var two = api.Config{Stripes: 2, Samples: 3, Loads: 9, History: 2}

func ingest(id string, tick, value int64) api.Call {
	return api.Call{Kind: api.Ingest, Id: id, Tick: tick, Value: value}
}

func set(id string) api.Call {
	return api.Call{Kind: api.Set, Id: id, Policy: policy.Usual()}
}

func read(id string) api.Call {
	return api.Call{Kind: api.Read, Id: id}
}

func TestP40_1Check(t *testing.T) {
	long := make([]api.Call, 257)
	for i := range long {
		long[i] = read("a")
	}
	a, b := ingest("a", 1, 1), ingest("b", 1, 1)
	tight := two
	tight.Stripes, tight.Loads = 1, 2
	for i, c := range []struct {
		config   api.Config
		programs [][]api.Call
		want     api.Errno
	}{
		{two, nil, api.OK}, {two, [][]api.Call{{a}, {b}}, api.OK}, {two, make([][]api.Call, 16), api.OK}, {two, [][]api.Call{long[:256]}, api.OK}, {two, [][]api.Call{{a, a, set("a"), read("a")}}, api.OK},
		{api.Config{}, make([][]api.Call, 17), api.ErrArg}, {api.Config{}, nil, api.ErrArg}, {api.Config{Stripes: 3, Samples: 1, Loads: 1, History: 1}, [][]api.Call{long}, api.ErrArg}, {two, make([][]api.Call, 17), api.ErrArg}, {two, [][]api.Call{long}, api.ErrLimit}, {two, [][]api.Call{{{Kind: 9}}, long}, api.ErrKind}, {two, [][]api.Call{long, {{Kind: 9}}}, api.ErrLimit},
		{two, [][]api.Call{slices.Repeat([]api.Call{{Kind: 9}}, 257)}, api.ErrLimit}, {two, [][]api.Call{{{Kind: api.Snap}}}, api.ErrKind}, {two, [][]api.Call{{{Kind: api.Shut}}}, api.ErrKind}, {two, [][]api.Call{{{}}}, api.ErrKind}, {two, [][]api.Call{{{Kind: api.Look, Id: "a"}}}, api.ErrKind}, {two, [][]api.Call{{{Kind: api.Trim}}}, api.ErrKind},
		{two, [][]api.Call{{a}, {a}}, api.ErrOrder}, {two, [][]api.Call{{a}, {read("a")}}, api.ErrOrder}, {two, [][]api.Call{{a}, {b}, {{Kind: api.Free}}}, api.ErrKind}, {two, [][]api.Call{{a}, {a}, {{Kind: api.Free}}}, api.ErrKind},
		{two, [][]api.Call{{ingest("A", 1, 1)}, {ingest("A", 1, 1)}, {ingest("", 1, 1)}}, api.OK},
		{tight, [][]api.Call{{a, b}}, api.OK}, {tight, [][]api.Call{{a}, {b}, {read("c")}}, api.ErrFull}, {tight, [][]api.Call{{a}, {b}, {read("C")}}, api.OK}, {tight, [][]api.Call{{a, b, read("c")}, {read("c")}}, api.ErrOrder},
	} {
		if got := Check(c.config, c.programs); got != c.want {
			t.Errorf("%d: %d, want %d", i, got, c.want)
		}
		if r, err := Run(c.config, c.programs); err != c.want || err != api.OK && !reflect.DeepEqual(r, Result{}) {
			t.Errorf("%d: %+v, %d", i, r, err)
		}
	}
}

func TestP40_2Run(t *testing.T) {
	r, err := Run(two, [][]api.Call{{ingest("b", 1, 5)}, nil, {ingest("a", 1, 250), set("a"), read("a"), ingest("A", 1, 1), ingest("a", -1, 1), {Kind: api.Set, Id: "a"}, read("x")}, {set("c")}})
	want := Result{
		Replies:  [][]api.Reply{{{}}, nil, {{}, {}, {}, {Err: api.ErrId}, {Err: api.ErrTick}, {Err: api.ErrPolicy}, {Err: api.ErrNone}}, {{}}},
		Verdicts: []Verdict{{"a", api.Advice{Tick: 1, Load: 250, Want: 3, Replicas: 3, Why: api.Up}, api.OK}, {"b", api.Advice{}, api.ErrNone}, {"c", api.Advice{}, api.ErrNone}},
	}
	if !reflect.DeepEqual(r, want) || err != api.OK {
		t.Errorf("%+v, %d", r, err)
	}
	if r, err := Run(two, nil); len(r.Replies) != 0 || len(r.Verdicts) != 0 || err != api.OK {
		t.Error(r, err)
	}
}

// TestP40_3Always holds what is told against a store that is asked each program alone.
func TestP40_3Always(t *testing.T) {
	for seed := range int64(20) {
		r := rand.New(rand.NewSource(seed))
		c := api.Config{Stripes: 1 << r.Intn(4), Samples: 1 + r.Intn(5), Loads: 64, History: 2}
		programs := make([][]api.Call, 16)
		for i := range programs {
			for range 200 {
				id := fmt.Sprint("p", i, "-", r.Intn(3))
				switch r.Intn(4) {
				case 0:
					programs[i] = append(programs[i], set(id))
				case 1:
					programs[i] = append(programs[i], read(id))
				default:
					programs[i] = append(programs[i], ingest(id, int64(r.Intn(50)-1), int64(r.Intn(500))))
				}
			}
		}
		got, err := Run(c, programs)
		if err != api.OK {
			t.Fatal(err)
		}
		all, _ := store.New(c)
		for i, program := range programs {
			alone, _ := store.New(c)
			for j, x := range program {
				if all.Do(x); got.Replies[i][j] != alone.Do(x) {
					t.Fatalf("seed %d: the call %d of %d", seed, j, i)
				}
			}
		}
		if again, _ := Run(c, programs); !reflect.DeepEqual(again, got) {
			t.Fatal("another run tells otherwise")
		}
		if !slices.IsSortedFunc(got.Verdicts, func(a, b Verdict) int { return map[bool]int{true: -1, false: 1}[a.Id < b.Id] }) {
			t.Fatal("the order of ids")
		}
		n := 0
		for i := range all.Count() {
			n += all.Stripe(i).Len()
		}
		for _, v := range got.Verdicts {
			a, err := all.Decide(v.Id)
			k, _ := ident.Pack(v.Id)
			if a != v.Advice || err != v.Err || all.Stripe(route.Of(k, c.Stripes)).Get(k) == nil {
				t.Fatalf("%+v: %+v, %d", v, a, err)
			}
		}
		if n != len(got.Verdicts) {
			t.Fatal(n)
		}
	}
}
