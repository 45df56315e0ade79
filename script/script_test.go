package script

import (
	"math"
	"reflect"
	"strings"
	"testing"

	"flywheel/api"
	"flywheel/policy"
)

var small = api.Config{Stripes: 1, Samples: 4, Loads: 4, History: 4}

func read(id string) api.Call {
	return api.Call{Kind: api.Read, Id: id}
}

func scripts() map[string]Script {
	return map[string]Script{
		"store 1 4 4 4\nclient\nread a\nworkers 0\n":  {Config: small, Programs: [][]api.Call{{read("a")}}},
		"store 2 3 5 7\nworkers 1\n":                  {Config: api.Config{Stripes: 2, Samples: 3, Loads: 5, History: 7}, Workers: 1},
		"store 1 4 4 4\nworkers 3\n":                  {Config: small, Workers: 3},
		"store 1 4 4 4\nclient\nworkers 1\npicks 0\n": {Config: small, Programs: [][]api.Call{nil}, Workers: 1, Picks: []int{0}},
		"store 1 4 4 4\nclient\nclient\nsnap\ntrim -1\nclient\nset b min 1 max 10 target 100 tolerance 100 window 5 hold 3\nworkers 0\npicks 5 -9223372036854775808 7\n": {Config: small, Programs: [][]api.Call{nil, {{Kind: api.Snap}, {Kind: api.Trim, Tick: -1}}, {{Kind: api.Set, Id: "b", Policy: policy.Usual()}}}, Picks: []int{5, math.MinInt64, 7}},
	}
}

func same(a, b Script) bool {
	if len(a.Programs) != len(b.Programs) || a.Config != b.Config || a.Workers != b.Workers || len(a.Picks) != len(b.Picks) || len(a.Picks) > 0 && !reflect.DeepEqual(a.Picks, b.Picks) {
		return false
	}
	for i := range a.Programs {
		if len(a.Programs[i]) != len(b.Programs[i]) || len(a.Programs[i]) > 0 && !reflect.DeepEqual(a.Programs[i], b.Programs[i]) {
			return false
		}
	}
	return true
}

func TestP42_1Check(t *testing.T) {
	for i, c := range []struct {
		s    Script
		want api.Errno
	}{
		{Script{Config: small, Workers: 1}, api.OK}, {Script{Workers: 1}, api.ErrArg}, {Script{Config: small}, api.ErrArg}, {Script{Config: small, Workers: -1, Programs: [][]api.Call{{{}}}}, api.ErrArg}, {Script{Config: small, Programs: [][]api.Call{{{}}, make([]api.Call, 257)}}, api.ErrLimit},
		{Script{Config: small, Programs: [][]api.Call{{read("a")}, {read("A"), {}}}}, api.ErrId}, {Script{Config: small, Programs: [][]api.Call{{read("a"), {}}, {read("A")}}}, api.ErrKind}, {Script{Config: small, Programs: [][]api.Call{{{Kind: api.Trim, Tick: -1}}}}, api.OK},
	} {
		if got := Check(c.s); got != c.want {
			t.Errorf("%d: %d", i, got)
		}
		if s, err := Text(c.s); err != c.want || (s == "") != (err != api.OK) {
			t.Errorf("%d: %q, %d", i, s, err)
		}
	}
}

func TestP42_2AndP42_4TextAndParse(t *testing.T) {
	for text, s := range scripts() {
		if got, err := Text(s); got != text || err != api.OK {
			t.Errorf("%q, %d, want %q", got, err, text)
		}
		if got, n, err := Parse(text); !same(got, s) || n != 0 || err != api.OK {
			t.Errorf("%q: %+v, %d, %d", text, got, n, err)
		}
	}
	full := Script{Config: small, Programs: [][]api.Call{{{Kind: api.Snap, Id: "x", Tick: 7}}}}
	text, _ := Text(full)
	if got, _, _ := Parse(text); !same(got, Script{Config: small, Programs: [][]api.Call{{{Kind: api.Snap}}}}) {
		t.Error("calls are read bare")
	}
}

func TestP42_2Limit(t *testing.T) {
	s := Script{Config: small, Workers: 1, Picks: []int{10}}
	text, _ := Text(s)
	for len(text) < api.MaxText {
		s.Picks = append(s.Picks, make([]int, (api.MaxText-len(text))/2)...)
		if len(text)%2 != 0 {
			s.Picks[0] /= 10
		}
		text, _ = Text(s)
	}
	if got, n, err := Parse(text); len(text) != api.MaxText || !same(got, s) || n != 0 || err != api.OK {
		t.Error(len(text), n, err)
	}
	s.Picks[0] *= 10
	s.Picks[0]++
	s.Picks[0] *= 10
	if got, err := Text(s); got != "" || err != api.ErrLimit {
		t.Error(len(got), err)
	}
	if got, n, err := Parse(text + "\n"); !same(got, Script{}) || n != 0 || err != api.ErrLimit {
		t.Error(n, err)
	}
	if got, n, err := Parse(strings.Repeat("x", api.MaxText+1)); !same(got, Script{}) || n != 0 || err != api.ErrLimit {
		t.Error(n, err)
	}
}

func TestP42_3ParseErrors(t *testing.T) {
	const store, end = "store 1 4 4 4\n", "workers 0\n"
	for text, want := range map[string]struct {
		n   int
		err api.Errno
	}{
		"": {1, api.ErrForm}, "\n": {1, api.ErrForm}, "store 1 4 4 4": {1, api.ErrForm}, store: {2, api.ErrForm}, "client\n": {1, api.ErrForm}, "store\n": {1, api.ErrForm}, "store 1 4 4\n" + end: {1, api.ErrForm}, "store 1 4 4 4 4\n" + end: {1, api.ErrForm}, "store 1 4 4 04\n": {1, api.ErrForm}, "store 1 4 4 4 \n": {1, api.ErrForm}, "store  1 4 4 4\n": {1, api.ErrForm}, "Store 1 4 4 4\n": {1, api.ErrForm}, "snap\n": {1, api.ErrForm}, "go\n": {1, api.ErrForm},
		store + "snap\n" + end: {2, api.ErrForm}, store + "go\n": {2, api.ErrKind}, store + "read A\n": {2, api.ErrId}, store + "read\n": {2, api.ErrForm}, store + "\n": {2, api.ErrKind}, store + store: {2, api.ErrKind}, store + "picks 1\n": {2, api.ErrKind}, store + "workers\n": {2, api.ErrKind}, store + "workers 1 2\n": {2, api.ErrKind}, store + "workers 01\n": {2, api.ErrKind}, store + "workers \n": {2, api.ErrKind}, store + "client \n": {2, api.ErrKind},
		store + "client\nread A\n": {3, api.ErrId}, store + "client\nread a\nread a \n": {4, api.ErrForm}, store + "client\nread a\ngo\n" + end: {4, api.ErrKind}, store + "client\nread a\n": {4, api.ErrForm}, store + "client\nread a": {3, api.ErrForm}, store + "client\ngo": {3, api.ErrForm}, store + "client\n\n" + end: {3, api.ErrKind},
		store + end + "picks\n": {3, api.ErrForm}, store + end + "picks \n": {3, api.ErrForm}, store + end + "picks 01\n": {3, api.ErrForm}, store + end + "client\n": {3, api.ErrForm}, store + end + "snap\n": {3, api.ErrForm}, store + end + "go\n": {3, api.ErrForm}, store + end + end: {3, api.ErrForm}, store + end + "\n": {3, api.ErrForm}, store + end + "picks 1": {3, api.ErrForm}, store + end + " ": {3, api.ErrForm},
		store + end + "picks 1\npicks 1\n": {4, api.ErrForm}, store + end + "picks 1\n\n": {4, api.ErrForm}, store + end + "picks 1\nx": {4, api.ErrForm}, store + end + "picks 1\nclient\n": {4, api.ErrForm},
		store + end: {0, api.ErrArg}, "store 3 4 4 4\nclient\n" + end: {0, api.ErrArg}, "store 0 -1 4 4\nclient\n" + end: {0, api.ErrArg}, store + "client\nworkers -1\n": {0, api.ErrArg}, store + "workers 33\n": {0, api.ErrArg}, store + "client\n" + strings.Repeat("snap\n", 257) + end: {0, api.ErrLimit}, store + strings.Repeat("client\n", 33) + end: {0, api.ErrArg},
	} {
		if got, n, err := Parse(text); !same(got, Script{}) || n != want.n || err != want.err {
			t.Errorf("%q: %d, %d, want %d, %d", text, n, err, want.n, want.err)
		}
	}
}
