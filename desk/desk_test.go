package desk

import (
	"strings"
	"testing"

	"flywheel/api"
)

const usual = "min 1 max 10 target 100 tolerance 100 window 5 hold 3"

// talk is what is said, and what must be answered.
type talk [][2]string

func (l talk) with(t *testing.T, d *Desk) {
	t.Helper()
	for i, x := range l {
		if got := d.Say(x[0]); got != x[1] {
			t.Errorf("%d: %q: %q, want %q", i, x[0], got, x[1])
		}
	}
}

func TestP49_1NewZeroNil(t *testing.T) {
	for _, d := range []*Desk{New(), {}} {
		talk{{"ids", "error 5"}, {"mark", "error 5"}, {"changes", "error 5"}, {"snap", "error 5"}, {"read A", "error 2"}, {"go", "error 14"}, {"", "error 14"}, {"decide a", "error 5"}, {"decide A", "error 5"}, {"decide", "error 10"}, {"load a", "error 5"}, {"try a", "error 5"}, {"ids ", "error 10"}}.with(t, d)
	}
	var none *Desk
	for _, s := range []string{"", "ids", "ids 5", "store 1 4 4 4", "go", "decide"} {
		if got := none.Say(s); got != "error 5" {
			t.Errorf("%q: %q", s, got)
		}
	}
	if got, err := none.Play("ids\n\n#x\ngo"); got != "error 5\nerror 5\n" || err != api.OK {
		t.Error(got, err)
	}
}

func TestP49_2Store(t *testing.T) {
	d := New()
	talk{
		{"store", "error 10"}, {"store ", "error 10"}, {"store 1 4 4", "error 10"}, {"store 1 4 4 4 4", "error 10"}, {"store 1 4 4 04", "error 10"}, {"store  1 4 4 4", "error 10"}, {"store 1 4 4 4 ", "error 10"}, {"store 3 4 4 4", "error 1"}, {"store 1 0 4 4", "error 1"},
		{"ids", "error 5"}, {"store 1 4 4 4", "ok"}, {"ids", "ok"}, {"ingest b 1 1", "ok"}, {"ingest a 1 1", "ok"}, {"ids", "ok a b"}, {"store 3 4 4 4", "error 1"}, {"store x", "error 10"}, {"ids", "ok a b"}, {"changes", "ok; + a; + b"},
		{"store 2 4 4 4", "ok"}, {"ids", "ok"}, {"changes", "ok"}, {"stores", "error 14"},
		{"store 1 3 1 2", "ok"}, {"ingest a 1 1", "ok"}, {"ingest b 1 1", "error 6"}, {"ingest a 2 1", "ok"}, {"ingest a 3 1", "ok"}, {"ingest a 4 1", "ok"}, {"load a", "ok samples 3 past 0 policy no"},
	}.with(t, d)
}

func TestP49_2DecideLoadTry(t *testing.T) {
	talk{
		{"store 1 3 2 2", "ok"}, {"set a " + usual, "ok"}, {"decide a", "error 5"}, {"ingest a 1 250", "ok"}, {"load a", "ok samples 1 past 0 policy yes"}, {"decide a", "ok tick 1 load 250 want 3 replicas 3 why 2"}, {"load a", "ok samples 1 past 1 policy yes"},
		{"read a", "ok tick 1 load 250 want 3 replicas 3 why 2"}, {"ingest a 2 100", "ok"}, {"decide a", "ok tick 2 load 175 want 2 replicas 3 why 4"}, {"decide b", "error 5"}, {"decide B", "error 2"}, {"decide", "error 10"}, {"decide ", "error 2"}, {"decide a ", "error 2"},
		{"load", "error 10"}, {"load b", "error 5"}, {"load ", "error 2"}, {"try", "error 10"}, {"try b", "error 5"}, {"try B", "error 2"}, {"ingest b 5 7", "ok"}, {"try b", "error 5"}, {"load b", "ok samples 1 past 0 policy no"}, {"decide b", "error 5"}, {"ingest c 1 1", "error 6"},
		{"ingest a 9 900", "ok"}, {"try a", "ok changes 1 turns 0 least 3 most 9 spare 175 short 0"}, {"ingest a 3 5", "ok"}, {"load a", "ok samples 3 past 2 policy yes"},
	}.with(t, New())
}

func TestP49_2TryHasTheConfigsRoom(t *testing.T) {
	talk{
		{"store 1 3 2 1", "ok"}, {"set a min 1 max 9 target 100 tolerance 0 window 1 hold 9", "ok"}, {"ingest a 1 500", "ok"}, {"ingest a 2 100", "ok"}, {"ingest a 3 100", "ok"}, {"try a", "ok changes 1 turns 0 least 1 most 5 spare 400 short 0"},
		{"store 1 3 2 2", "ok"}, {"set a min 1 max 9 target 100 tolerance 0 window 1 hold 9", "ok"}, {"try a", "ok changes 0 turns 0 least 0 most 0 spare 0 short 0"}, {"ingest a 1 500", "ok"}, {"ingest a 2 100", "ok"}, {"ingest a 3 100", "ok"}, {"try a", "ok changes 0 turns 0 least 5 most 5 spare 800 short 0"},
	}.with(t, New())
}

func TestP49_2MarkAndChanges(t *testing.T) {
	talk{
		{"store 1 3 4 2", "ok"}, {"ingest a 1 5", "ok"}, {"changes", "ok; + a"}, {"mark", "ok"}, {"changes", "ok"}, {"ingest a 2 5", "ok"}, {"set a " + usual, "ok"}, {"ingest b 1 1", "ok"}, {"decide a", "ok tick 2 load 5 want 1 replicas 1 why 1"}, {"changes", "ok; ~ a samples policy past; + b"}, {"changes", "ok; ~ a samples policy past; + b"},
		{"mark ", "error 10"}, {"changes x", "error 10"}, {"ids a", "error 10"}, {"mark", "ok"}, {"changes", "ok"}, {"ids", "ok a b"},
	}.with(t, New())
}

func TestP49_2Calls(t *testing.T) {
	talk{
		{"store 1 3 4 2", "ok"}, {"snap", "ok epoch 1 handle 1"}, {"ingest a 1 5", "ok"}, {"snap", "ok epoch 2 handle 2"}, {"look 2 a 9 9", "ok epoch 2 count 1 sum 5 least 5 most 5 mean 5"}, {"look 1 a 9 9", "error 5"}, {"free 1", "ok"}, {"look 1 a 9 9", "error 8"},
		{"ingest a -1 5", "error 3"}, {"ingest a 1 -5", "error 4"}, {"ingest A 1 5", "error 2"}, {"ingest a 01 5", "error 10"}, {"trim 5", "ok"}, {"look 2 a 9 9", "ok epoch 2 count 1 sum 5 least 5 most 5 mean 5"}, {"load a", "ok samples 0 past 0 policy no"}, {"shut", "ok"}, {"shut", "error 9"}, {"set a min 0 max 0 target 0 tolerance 0 window 0 hold 0", "error 7"}, {" ids", "error 14"},
	}.with(t, New())
}

func TestP49_3Play(t *testing.T) {
	d := New()
	text := "# a desk\nstore 1 4 4 4\n\nset a " + usual + "\ningest a 1 250\n#decide a\ndecide a"
	if got, err := d.Play(text); got != "ok\nok\nok\nok tick 1 load 250 want 3 replicas 3 why 2\n" || err != api.OK {
		t.Errorf("%q, %d", got, err)
	}
	if got, err := d.Play(""); got != "" || err != api.OK {
		t.Error(got, err)
	}
	if got, err := d.Play(" #\n \r\n"); got != "error 14\nerror 14\n" || err != api.OK {
		t.Errorf("%q, %d", got, err)
	}
	full := "ids\n#" + strings.Repeat("x", api.MaxText-5)
	if got, err := d.Play(full); len(full) != api.MaxText || got != "ok a\n" || err != api.OK {
		t.Error(got, err)
	}
	if got, err := d.Play("ingest z 1 1\n" + full); got != "" || err != api.ErrLimit || d.Say("ids") != "ok a" {
		t.Error(got, err)
	}
}

func TestP49_4InTwoParts(t *testing.T) {
	text := "store 1 4 4 4\ningest a 1 5\n#\n\nmark\nsnap\ningest b 1 5\nchanges\nset b " + usual + "\ndecide b\nread b\nids\ngo\n"
	whole, _ := New().Play(text)
	for i := range text {
		if text[i] == '\n' {
			d := New()
			a, _ := d.Play(text[:i+1])
			b, _ := d.Play(text[i+1:])
			if a+b != whole {
				t.Errorf("cut at %d: %q, want %q", i, a+b, whole)
			}
		}
	}
}
