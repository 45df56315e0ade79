package calls

import (
	"math"
	"slices"
	"testing"

	"flywheel/api"
	"flywheel/ident"
	"flywheel/policy"
	"flywheel/route"
)

var two = api.Config{Stripes: 2, Samples: 1, Loads: 1, History: 1}
var bad = api.Config{Stripes: 3, Samples: 1, Loads: 1, History: 1}

func home(id string) int {
	k, _ := ident.Pack(id)
	return route.Of(k, 2)
}

func TestP29_1Locks(t *testing.T) {
	if Cuts(two) != 2 || Line(two) != 3 || Cuts(api.Config{}) != 0 || Line(api.Config{}) != 1 || Line(bad) != 4 {
		t.Error("locks")
	}
	for _, id := range []string{"a", "b", "c", "d", "e"} {
		if Home(two, id) != home(id) {
			t.Error(id)
		}
	}
	if Home(two, "A") != -1 || Home(two, "") != -1 || Home(bad, "a") != -1 || Home(api.Config{Stripes: 2}, "a") != home("a") {
		t.Error("no home")
	}
}

func all() []api.Call {
	return []api.Call{
		{Kind: api.Ingest, Id: "a"}, {Kind: api.Trim}, {Kind: api.Snap}, {Kind: api.Free}, {Kind: api.Look, Id: "a"}, {Kind: api.Set, Id: "b", Policy: policy.Usual()}, {Kind: api.Read, Id: "c"}, {Kind: api.Shut},
		{}, {Kind: 9}, {Kind: api.Ingest}, {Kind: api.Ingest, Id: "a", Tick: -1}, {Kind: api.Ingest, Id: "a", Value: -1}, {Kind: api.Trim, Tick: -1}, {Kind: api.Look}, {Kind: api.Set, Id: "a"}, {Kind: api.Read, Id: "A"},
	}
}

func TestP29_2Ops(t *testing.T) {
	a, b, c := home("a"), home("b"), home("c")
	want := [][]Op{
		{{Begin, 0}, {AskWrite, a}, {Do, 0}, {Drop, a}, {AskWrite, 3}, {Add, 0}, {Drop, 3}, {End, 0}},
		{{Begin, 0}, {AskWrite, 0}, {AskWrite, 1}, {Do, 0}, {Drop, 0}, {Drop, 1}, {End, 0}},
		{{Begin, 0}, {AskRead, 0}, {AskRead, 1}, {AskWrite, 2}, {Do, 0}, {Drop, 2}, {Drop, 0}, {Drop, 1}, {End, 0}},
		{{Begin, 0}, {AskWrite, 2}, {Do, 0}, {Drop, 2}, {End, 0}},
		{{Begin, 0}, {AskRead, 2}, {Do, 0}, {Drop, 2}, {End, 0}},
		{{Begin, 0}, {AskWrite, b}, {Do, 0}, {Drop, b}, {AskWrite, 3}, {Add, 0}, {Drop, 3}, {End, 0}},
		{{Begin, 0}, {AskRead, c}, {Do, 0}, {Drop, c}, {End, 0}},
		{{Begin, 0}, {AskWrite, 3}, {Do, 0}, {Drop, 3}, {End, 0}},
	}
	steps := 0
	for i, x := range all() {
		expected := []Op{{Begin, 0}, {End, 0}}
		if i < len(want) {
			expected = want[i]
		}
		if got := Ops(two, x); !slices.Equal(got, expected) {
			t.Errorf("%+v: %v", x, got)
		}
		if len(Ops(bad, x)) != 0 || len(Ops(api.Config{Stripes: 1}, x)) != 0 {
			t.Error("a config that may not be")
		}
		steps += len(expected)
	}
	if Begin != 1 || AskRead != 2 || AskWrite != 3 || Do != 4 || Drop != 5 || Add != 6 || End != 7 {
		t.Error("the kinds of steps")
	}
	if n := Steps(two, [][]api.Call{all(), nil, all()}); n != 2*steps {
		t.Error(n)
	}
	if Steps(bad, [][]api.Call{all()}) != 0 || Steps(two, nil) != 0 {
		t.Error("no steps")
	}
}

func TestP29_3AndP29_5Rising(t *testing.T) {
	for _, c := range []struct {
		l    []Op
		want bool
	}{
		{nil, true}, {[]Op{{Begin, 5}, {Do, 1}, {End, 3}, {77, 1}}, true}, {[]Op{{AskRead, 1}}, false}, {[]Op{{Drop, 1}}, false}, {[]Op{{AskRead, 1}, {Drop, 1}, {Drop, 1}}, false},
		{[]Op{{AskRead, 1}, {AskWrite, 1}, {Drop, 1}}, false}, {[]Op{{AskRead, 2}, {AskWrite, 1}, {Drop, 1}, {Drop, 2}}, false}, {[]Op{{AskRead, 1}, {AskWrite, 2}, {Drop, 1}, {Drop, 2}}, true},
		{[]Op{{AskRead, 1}, {AskRead, 5}, {Drop, 5}, {AskRead, 3}, {Drop, 3}, {Drop, 1}}, true}, {[]Op{{AskRead, 1}, {AskRead, 5}, {Drop, 1}, {AskRead, 3}, {Drop, 3}, {Drop, 5}}, false},
		{[]Op{{AskRead, 1}, {AskRead, 5}, {Drop, 1}, {Drop, 5}, {AskRead, 1}, {Drop, 1}}, true}, {[]Op{{AskRead, -3}, {AskRead, -2}, {Drop, -3}, {Drop, -2}}, true}, {[]Op{{AskRead, 1}, {Drop, 2}, {Drop, 1}}, false},
		{[]Op{{AskRead, 1}, {AskRead, 2}, {AskRead, 3}, {Drop, 2}, {Drop, 3}, {AskRead, 2}, {Drop, 2}, {Drop, 1}}, true},
	} {
		if Rising(c.l) != c.want {
			t.Errorf("%v: %v", c.l, Rising(c.l))
		}
	}
	for _, stripes := range []int{1, 2, 8, 64} {
		c := two
		c.Stripes = stripes
		for _, x := range all() {
			if !Rising(Ops(c, x)) {
				t.Errorf("%+v", x)
			}
		}
	}
}

func TestP29_4Check(t *testing.T) {
	long := make([]api.Call, 257)
	for _, c := range []struct {
		config   api.Config
		programs [][]api.Call
		workers  int
		want     api.Errno
	}{
		{two, nil, 1, api.OK}, {two, nil, 32, api.OK}, {two, make([][]api.Call, 32), 0, api.OK}, {two, make([][]api.Call, 30), 2, api.OK}, {two, [][]api.Call{long[:256]}, 0, api.OK}, {two, [][]api.Call{all()}, 0, api.OK},
		{bad, make([][]api.Call, 33), -1, api.ErrArg}, {two, nil, 0, api.ErrArg}, {two, nil, 33, api.ErrArg}, {two, nil, -1, api.ErrArg}, {two, make([][]api.Call, 2), -1, api.ErrArg}, {two, make([][]api.Call, 33), 0, api.ErrArg},
		{two, make([][]api.Call, 31), 2, api.ErrArg}, {two, make([][]api.Call, 2), math.MaxInt64, api.ErrArg}, {two, nil, math.MinInt64, api.ErrArg},
		{two, [][]api.Call{nil, long}, 0, api.ErrLimit}, {two, [][]api.Call{long}, -1, api.ErrArg},
	} {
		if got := Check(c.config, c.programs, c.workers); got != c.want {
			t.Errorf("%+v, %d programs, %d workers: %d", c.config, len(c.programs), c.workers, got)
		}
	}
}
