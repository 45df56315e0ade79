package line

import (
	"math"
	"strings"
	"testing"

	"flywheel/api"
	"flywheel/policy"
)

const usual = "min 1 max 10 target 100 tolerance 100 window 5 hold 3"

func lines() map[string]api.Call {
	odd := api.Policy{Min: -1, Max: math.MinInt64, Hold: math.MaxInt64}
	return map[string]api.Call{
		"ingest a 1 5": {Kind: api.Ingest, Id: "a", Tick: 1, Value: 5}, "ingest web-1 -9223372036854775808 -1": {Kind: api.Ingest, Id: "web-1", Tick: math.MinInt64, Value: -1},
		"trim 7": {Kind: api.Trim, Tick: 7}, "trim -7": {Kind: api.Trim, Tick: -7}, "snap": {Kind: api.Snap}, "free 3": {Kind: api.Free, Handle: 3}, "free -3": {Kind: api.Free, Handle: -3},
		"look 1 a 9 8": {Kind: api.Look, Handle: 1, Id: "a", Tick: 9, Value: 8}, "set a " + usual: {Kind: api.Set, Id: "a", Policy: policy.Usual()}, "set a " + policy.Text(odd): {Kind: api.Set, Id: "a", Policy: odd},
		"set 0 " + policy.Text(api.Policy{}): {Kind: api.Set, Id: "0"}, "read a": {Kind: api.Read, Id: "a"}, "shut": {Kind: api.Shut},
	}
}

func TestP41_1Verb(t *testing.T) {
	want := []string{"", "ingest", "trim", "snap", "free", "look", "set", "read", "shut", ""}
	for kind, verb := range want {
		if Verb(kind) != verb {
			t.Error(kind, Verb(kind))
		}
	}
	if Verb(-1) != "" || Verb(math.MaxInt64) != "" || Verb(math.MinInt64) != "" {
		t.Error("no kinds")
	}
}

func TestP41_1AndP41_5TextAndParse(t *testing.T) {
	for s, c := range lines() {
		if got, err := Text(c); got != s || err != api.OK {
			t.Errorf("Text(%+v) = %q, %d", c, got, err)
		}
		if got, err := Parse(s); got != c || err != api.OK {
			t.Errorf("Parse(%q) = %+v, %d", s, got, err)
		}
	}
	for c, want := range map[api.Call]api.Errno{
		{}: api.ErrKind, {Kind: 9, Id: "A"}: api.ErrKind, {Kind: -1}: api.ErrKind, {Kind: api.Ingest}: api.ErrId, {Kind: api.Look, Id: "a b"}: api.ErrId, {Kind: api.Set, Id: "A"}: api.ErrId, {Kind: api.Read, Id: strings.Repeat("a", 21)}: api.ErrId,
	} {
		if s, err := Text(c); s != "" || err != want {
			t.Errorf("Text(%+v) = %q, %d", c, s, err)
		}
	}
	if s, err := Text(api.Call{Kind: api.Snap, Id: "A", Tick: 5, Value: 6, Handle: 7, Policy: policy.Usual()}); s != "snap" || err != api.OK {
		t.Error(s, err)
	}
	if s, err := Text(api.Call{Kind: api.Trim, Id: "A", Tick: 5, Value: 6}); s != "trim 5" || err != api.OK {
		t.Error(s, err)
	}
}

func TestP41_2ParseErrors(t *testing.T) {
	for s, want := range map[string]api.Errno{
		"": api.ErrKind, " ": api.ErrKind, "go": api.ErrKind, " snap": api.ErrKind, "Snap": api.ErrKind, "snap\n": api.ErrKind, "ingesta 1": api.ErrKind, "snapx": api.ErrKind, "workers 0": api.ErrKind, "store 1 4 4 4": api.ErrKind,
		"snap ": api.ErrForm, "snap 1": api.ErrForm, "shut x": api.ErrForm, "trim": api.ErrForm, "trim ": api.ErrForm, "trim 01": api.ErrForm, "trim 1 ": api.ErrForm, "trim 1 2": api.ErrForm, "trim a": api.ErrForm, "trim  1": api.ErrForm, "free 9223372036854775808": api.ErrForm, "free +1": api.ErrForm,
		"ingest": api.ErrForm, "ingest a": api.ErrForm, "ingest a 1": api.ErrForm, "ingest a 1 ": api.ErrForm, "ingest a 01 5": api.ErrForm, "ingest a 1 5 ": api.ErrForm, "ingest a 1 5 6": api.ErrForm, "ingest a  1 5": api.ErrForm, "ingest a 1 -0": api.ErrForm, "ingest A 01 5": api.ErrForm, "ingest A 1": api.ErrForm, "ingest A 1 5 6": api.ErrForm, "ingest 1 5": api.ErrForm,
		"ingest A 1 5": api.ErrId, "ingest  1 5": api.ErrId, "ingest a\n 1 5": api.ErrId, "ingest \xff 1 5": api.ErrId, "ingest ä -1 5": api.ErrId, "ingest aaaaaaaaaaaaaaaaaaaaa 1 5": api.ErrId,
		"look 1 a 9": api.ErrForm, "look a a 9 9": api.ErrForm, "look 1 A 9 9": api.ErrId, "look 1  9 9": api.ErrId, "look 01 A 9 9": api.ErrForm,
		"read": api.ErrForm, "read ": api.ErrId, "read A": api.ErrId, "read a ": api.ErrForm, "read  a": api.ErrForm, "read  ": api.ErrForm,
		"set a": api.ErrForm, "set a ": api.ErrForm, "set a min 1": api.ErrForm, "set A " + usual: api.ErrId, "set  " + usual: api.ErrId, "set a " + usual + " ": api.ErrForm, "set a " + usual + " more 1": api.ErrForm, "set a  " + usual: api.ErrForm, "set " + usual: api.ErrForm,
		"set a " + strings.Replace(usual, "min", "max", 1): api.ErrForm, "set a " + strings.Replace(usual, "10", "010", 1): api.ErrForm, "set A " + strings.Replace(usual, "hold", "held", 1): api.ErrForm, "set a " + strings.TrimSuffix(usual, " hold 3"): api.ErrForm,
	} {
		if c, err := Parse(s); c != (api.Call{}) || err != want {
			t.Errorf("Parse(%q) = %+v, %d, want %d", s, c, err, want)
		}
	}
}

func TestP41_3Bare(t *testing.T) {
	full := api.Call{Id: "A", Tick: -5, Value: 6, Handle: 7, Policy: policy.Usual()}
	for kind, want := range map[int]api.Call{
		api.Ingest: {Id: "A", Tick: -5, Value: 6}, api.Trim: {Tick: -5}, api.Snap: {}, api.Free: {Handle: 7}, api.Look: {Handle: 7, Id: "A", Tick: -5, Value: 6}, api.Set: {Id: "A", Policy: policy.Usual()}, api.Read: {Id: "A"}, api.Shut: {}, 0: {}, 9: {}, -3: {},
	} {
		full.Kind, want.Kind = kind, kind
		if got := Bare(full); got != want {
			t.Errorf("%d: %+v", kind, got)
		}
		if Bare(Bare(full)) != Bare(full) {
			t.Error("what is bare stays so")
		}
	}
}

func TestP41_4AdviceAndReply(t *testing.T) {
	a := api.Advice{Tick: 1, Load: 250, Want: 3, Replicas: -4, Why: 2}
	if s := Advice(a); s != "tick 1 load 250 want 3 replicas -4 why 2" {
		t.Error(s)
	}
	if s := Advice(api.Advice{}); s != "tick 0 load 0 want 0 replicas 0 why 0" {
		t.Error(s)
	}
	s := api.Stat{Mean: 1}
	for want, r := range map[string]api.Reply{
		"ok": {}, "error 5": {Err: api.ErrNone, Epoch: 5, Handle: 6, Stat: s, Advice: a}, "error -1": {Err: -1}, "ok epoch 3 handle 4": {Epoch: 3, Handle: 4}, "ok epoch -3": {Epoch: -3}, "ok handle 4": {Handle: 4},
		"ok count 0 sum 0 least 0 most 0 mean 1": {Stat: s}, "ok epoch 2 count 1 sum 2 least 3 most 4 mean 5": {Epoch: 2, Stat: api.Stat{Count: 1, Sum: 2, Least: 3, Most: 4, Mean: 5}}, "ok " + Advice(a): {Advice: a},
		"ok tick 0 load 0 want 0 replicas 0 why 7": {Advice: api.Advice{Why: 7}}, "ok epoch 1 handle 2 count 0 sum 0 least 0 most 0 mean 1 " + Advice(a): {Epoch: 1, Handle: 2, Stat: s, Advice: a},
	} {
		if got := Reply(r); got != want {
			t.Errorf("%q, want %q", got, want)
		}
	}
}

func TestP41_5WhatIsReadIsToldAsItStood(t *testing.T) {
	words := []string{"snap", "trim", "ingest", "read", "free", "look", "a", "A", "1", "-2", "01", "", "shut"}
	for _, a := range words {
		for _, b := range words {
			for _, c := range words {
				for _, d := range words {
					for _, s := range []string{a, a + " " + b, a + " " + b + " " + c, a + " " + b + " " + c + " " + d, "look " + a + " " + b + " " + c + " " + d} {
						if x, err := Parse(s); err == api.OK {
							if again, err := Text(x); again != s || err != api.OK {
								t.Fatalf("%q: %q", s, again)
							}
						}
					}
				}
			}
		}
	}
}
