package journal

import (
	"bytes"
	"encoding/binary"
	"hash/fnv"
	"math"
	"reflect"
	"slices"
	"strings"
	"testing"

	"flywheel/api"
	"flywheel/flat"
	"flywheel/line"
	"flywheel/policy"
	"flywheel/zig"
)

const most, least = math.MaxInt64, math.MinInt64

func calls() []api.Call {
	return []api.Call{
		{Kind: api.Ingest, Id: "a", Tick: 1, Value: -5}, {Kind: api.Trim, Tick: least}, {Kind: api.Snap}, {Kind: api.Free, Handle: 3}, {Kind: api.Look, Id: "web-1", Handle: -1, Tick: 9, Value: most},
		{Kind: api.Set, Id: strings.Repeat("z", 20), Policy: api.Policy{Min: least, Max: least, Target: least, Tolerance: least, Window: least, Hold: least}}, {Kind: api.Set, Id: "a", Policy: api.Policy{Min: 1, Max: 2, Target: 3, Tolerance: 4, Window: 5, Hold: 6}}, {Kind: api.Read, Id: "b"}, {Kind: api.Shut},
	}
}

// sealed has the body between its length and a right sum.
func sealed(body ...byte) []byte {
	b := append([]byte{byte(len(body))}, body...)
	h := fnv.New32a()
	h.Write(b)
	return binary.LittleEndian.AppendUint32(b, h.Sum32())
}

func TestP50_1Put(t *testing.T) {
	if b, err := Put(api.Call{Kind: api.Shut}); !bytes.Equal(b, sealed(0, 16)) || err != api.OK || !bytes.Equal(b[:3], []byte{2, 0, 16}) {
		t.Error(b, err)
	}
	bodies := [][]int64{{1, 1, -5}, {2, least}, {3}, {4, 3}, {5, -1, 9, most}, {6, least, least, least, least, least, least}, {6, 1, 2, 3, 4, 5, 6}, {7}, {8}}
	for i, c := range calls() {
		want := sealed(slices.Concat([]byte{byte(len(c.Id))}, []byte(c.Id), zig.Put(bodies[i]...))...)
		if b, err := Put(c); !bytes.Equal(b, want) || err != api.OK {
			t.Errorf("%+v: %v, %d, want %v", c, b, err, want)
		}
		full := api.Call{Kind: c.Kind, Id: "a", Tick: 1, Value: 2, Handle: 3, Policy: policy.Usual()}
		a, _ := Put(full)
		b, _ := Put(line.Bare(full))
		if !bytes.Equal(a, b) {
			t.Error("calls are put bare")
		}
	}
	for c, want := range map[api.Call]api.Errno{{}: api.ErrKind, {Kind: 9}: api.ErrKind, {Kind: api.Read}: api.ErrId, {Kind: api.Ingest, Id: "A"}: api.ErrId} {
		if b, err := Put(c); len(b) != 0 || err != want {
			t.Error(b, err)
		}
	}
}

func TestP50_2AndP50_5Get(t *testing.T) {
	for _, c := range calls() {
		b, _ := Put(c)
		for _, more := range [][]byte{nil, {0}, b} {
			if got, n, err := Get(slices.Concat(b, more)); got != c || n != len(b) || err != api.OK {
				t.Errorf("%+v: %+v, %d, %d", c, got, n, err)
			}
		}
		for n := range b {
			if got, used, err := Get(b[:n]); got != (api.Call{}) || used != 0 || err != api.ErrShort {
				t.Errorf("%d bytes: %+v, %d, %d", n, got, used, err)
			}
		}
		for i := 1; i < len(b); i++ {
			x := slices.Clone(b)
			x[i] ^= 1
			if got, used, err := Get(x); got != (api.Call{}) || used != 0 || err != api.ErrForm {
				t.Errorf("the byte %d is another one: %+v, %d, %d", i, got, used, err)
			}
		}
	}
}

func TestP50_2NoSuchCall(t *testing.T) {
	put := func(id string, n ...int64) []byte {
		return sealed(slices.Concat([]byte{byte(len(id))}, []byte(id), zig.Put(n...))...)
	}
	for i, b := range [][]byte{
		sealed(), sealed(0), sealed(5, 'a'), sealed(255), put("", 0), put("", 9), put("", -1), put("", 8, 0), put("a", 8), put("a", 3), put("", 7), put("A", 7), put("a", 7, 0), put("a", 1, 1), put("a", 1, 1, 1, 1), put("", 1, 1, 1), put("", 2), put("", 2, 1, 1),
		put("a", 2, 1), put("", 4), put("a", 4, 1), put("a", 5, 1, 1), put("a", 6, 1, 1, 1, 1, 1), put("a", 6, 1, 1, 1, 1, 1, 1, 1), sealed(0, 128), sealed(0, 128, 0), sealed(0, 144, 0), put(strings.Repeat("a", 21), 7), put("a", 7+1<<32),
	} {
		if got, used, err := Get(b); got != (api.Call{}) || used != 0 || err != api.ErrForm {
			t.Errorf("%d: %v: %+v, %d, %d", i, b, got, used, err)
		}
	}
	if _, _, err := Get(append(put("a", 7), 1)); err != api.OK {
		t.Error("the test's own bytes", err)
	}
	if _, _, err := Get([]byte{255, 1, 2, 3}); err != api.ErrShort {
		t.Error(err)
	}
}

func TestP50_3Log(t *testing.T) {
	var l Log
	if l.Len() != 0 || len(l.Bytes()) != 0 {
		t.Error("a zero log")
	}
	var want []byte
	for i, c := range calls() {
		b, _ := Put(c)
		want = append(want, b...)
		if l.Add(c) != api.OK || l.Len() != i+1 || !bytes.Equal(l.Bytes(), want) {
			t.Error(i)
		}
	}
	if l.Add(api.Call{}) != api.ErrKind || l.Add(api.Call{Kind: api.Read}) != api.ErrId || l.Len() != 9 || !bytes.Equal(l.Bytes(), want) {
		t.Error("what is refused")
	}
	l.Bytes()[0] = 77
	if !bytes.Equal(l.Bytes(), want) {
		t.Error("a log shares memory")
	}
	var none *Log
	if none.Add(calls()[0]) != api.ErrNone || none.Add(api.Call{}) != api.ErrNone || none.Len() != 0 || len(none.Bytes()) != 0 {
		t.Error("a nil log")
	}
}

func all() ([]byte, []int) {
	var b []byte
	var ends []int
	for _, c := range calls() {
		x, _ := Put(c)
		b = append(b, x...)
		ends = append(ends, len(b))
	}
	return b, ends
}

func TestP50_4AndP50_5Read(t *testing.T) {
	b, ends := all()
	for n := range len(b) + 1 {
		whole, used := 0, 0
		for _, end := range ends {
			if end <= n {
				whole, used = whole+1, end
			}
		}
		if l, got := Read(b[:n]); !slices.Equal(l, calls()[:whole]) || got != used {
			t.Fatalf("%d bytes: %d calls, %d", n, len(l), got)
		}
	}
	bad := slices.Clone(b)
	bad[ends[3]-1] ^= 1
	if l, used := Read(bad); len(l) != 3 || used != ends[2] {
		t.Error("one that cannot be read", len(l), used)
	}
}

func TestP50_4ReplayAndIds(t *testing.T) {
	b, _ := all()
	c := api.Config{Stripes: 1, Samples: 2, Loads: 2, History: 2}
	m := flat.New(c)
	var want []api.Reply
	for _, x := range calls() {
		want = append(want, m.Do(x))
	}
	got, replies := Replay(c, append(b, 1, 2, 3))
	if !reflect.DeepEqual(replies, want) || !slices.Equal(got.Ids(), m.Ids()) || got.Do(api.Call{Kind: api.Snap}).Epoch != 2 {
		t.Error(replies)
	}
	if m, replies := Replay(api.Config{}, b); m != nil || len(replies) != 0 {
		t.Error("no map of that config")
	}
	if m, replies := Replay(c, nil); m == nil || len(replies) != 0 {
		t.Error("no calls")
	}
	if got := Ids(b); !slices.Equal(got, []string{"a", "b", "web-1", strings.Repeat("z", 20)}) || len(Ids(nil)) != 0 {
		t.Error(got)
	}
}
