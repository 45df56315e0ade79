package shape

import (
	"math"
	"math/big"
	"slices"
	"testing"

	"flywheel/api"
)

const most, least = math.MaxInt64, math.MinInt64

func wrong() map[Shape]api.Errno {
	return map[Shape]api.Errno{
		{}: api.ErrKind, {6, -1, 0, 0, 0}: api.ErrKind, {-1, 0, 0, 1, 0}: api.ErrKind, {Flat, -1, 5, 0, 0}: api.ErrValue, {Saw, 5, 4, 0, 0}: api.ErrValue, {Saw, least, least, 1, 0}: api.ErrValue,
		{Step, 0, 5, 0, 0}: api.ErrArg, {Step, 0, 5, -3, 0}: api.ErrArg, {Peak, 0, 5, MaxPeriod + 1, 0}: api.ErrArg, {Pulse, 5, 5, most, 0}: api.ErrArg,
	}
}

func TestP54_1Check(t *testing.T) {
	for _, s := range []Shape{{Flat, 0, 0, 1, 0}, {Peak, most, most, MaxPeriod, least}, {Saw, 0, most, 7, most}} {
		if Check(s) != api.OK {
			t.Error(s)
		}
	}
	for s, want := range wrong() {
		text, err := Text(s)
		if Check(s) != want || Place(s, 7) != 0 || At(s, 7) != 0 || Sum(7, s) != 0 || text != "" || err != want {
			t.Errorf("%+v: %d, want %d", s, Check(s), want)
		}
	}
	if Flat != 1 || Saw != 2 || Step != 3 || Pulse != 4 || Peak != 5 || MaxPeriod != 1<<31 {
		t.Error("kinds and limits")
	}
}

func TestP54_2Place(t *testing.T) {
	ends := []int64{least, least + 1, -8, -7, -1, 0, 1, 6, 7, 100, most - 1, most}
	for _, period := range []int64{1, 2, 7, 1000003, MaxPeriod} {
		for _, tick := range ends {
			for _, phase := range ends {
				sum := new(big.Int).Add(big.NewInt(tick), big.NewInt(phase))
				want := sum.Mod(sum, big.NewInt(period)).Int64()
				if got := Place(Shape{Saw, 0, 1, period, phase}, tick); got != want {
					t.Errorf("period %d, phase %d, at %d: %d, want %d", period, phase, tick, got, want)
				}
			}
		}
	}
}

func TestP54_2At(t *testing.T) {
	for s, want := range map[Shape][]int64{
		{Flat, 3, 9, 4, 1}:  {3, 3, 3, 3, 3, 3},
		{Saw, 0, 10, 5, 0}:  {0, 2, 4, 6, 8, 0, 2, 4},
		{Saw, 1, 11, 3, 1}:  {4, 7, 1, 4},
		{Step, 2, 5, 4, 0}:  {2, 2, 5, 5, 2},
		{Step, 2, 5, 5, 0}:  {2, 2, 2, 5, 5, 2},
		{Step, 2, 5, 1, 0}:  {2, 2},
		{Pulse, 1, 8, 3, 0}: {8, 1, 1, 8, 1},
		{Pulse, 1, 8, 3, 2}: {1, 8, 1},
		{Peak, 0, 10, 4, 0}: {0, 5, 10, 5, 0},
		{Peak, 0, 10, 5, 0}: {0, 4, 8, 8, 4, 0},
		{Peak, 7, 9, 1, 0}:  {7, 7},
		{Saw, 5, 5, 3, 0}:   {5, 5, 5},
	} {
		for tick, load := range want {
			if got := At(s, int64(tick)); got != load {
				t.Errorf("%+v at %d: %d, want %d", s, tick, got, load)
			}
		}
	}
	if At(Shape{Saw, 0, most, MaxPeriod, -1}, 0) != most-(1<<32) || At(Shape{Peak, 1, most, 2, 1}, 0) != most || At(Shape{Peak, 0, most, MaxPeriod, 0}, 1<<30) != most {
		t.Error("great loads", At(Shape{Saw, 0, most, MaxPeriod, -1}, 0))
	}
}

func TestP54_3SumAndSamples(t *testing.T) {
	a, b := Shape{Saw, 0, 10, 5, 0}, Shape{Flat, 7, 7, 1, 0}
	if Sum(3) != 0 || Sum(3, a) != 6 || Sum(3, a, b, Shape{}) != 13 || Sum(0, Shape{Flat, most, most, 1, 0}, b) != most {
		t.Error("sums")
	}
	if got := Samples(-1, 3, a, b); !slices.Equal(got, []api.Sample{{Tick: -1, Value: 15}, {Tick: 0, Value: 7}, {Tick: 1, Value: 9}}) {
		t.Error(got)
	}
	if got := Samples(most-1, 3, b); !slices.Equal(got, []api.Sample{{Tick: most - 1, Value: 7}, {Tick: most, Value: 7}, {Tick: most, Value: 7}}) {
		t.Error(got)
	}
	if len(Samples(0, 256)) != 256 || len(Samples(0, 257, a)) != 256 || len(Samples(0, most, a)) != 256 || len(Samples(0, 0, a)) != 0 || len(Samples(0, -1, a)) != 0 || len(Samples(0, least, a)) != 0 {
		t.Error("how many")
	}
}

func TestP54_4TextAndParse(t *testing.T) {
	for text, s := range map[string]Shape{"flat 250 250 1 0": {Flat, 250, 250, 1, 0}, "saw 0 10 5 0": {Saw, 0, 10, 5, 0}, "step 1 2 3 -4": {Step, 1, 2, 3, -4}, "pulse 0 9223372036854775807 2147483648 9223372036854775807": {Pulse, 0, most, MaxPeriod, most}, "peak 0 0 1 -9223372036854775808": {Peak, 0, 0, 1, least}} {
		if got, err := Text(s); got != text || err != api.OK {
			t.Errorf("%q, %d", got, err)
		}
		if got, err := Parse(text); got != s || err != api.OK {
			t.Errorf("%q: %+v, %d", text, got, err)
		}
	}
	for _, text := range []string{"", "saw", "saw 0 10 0 0", "saw 0 10 5", "saw 0 10 5 0 0", "saw 0 10 5 0 ", " saw 0 10 5 0", "saw  0 10 5 0", "Saw 0 10 5 0", "saw 00 10 5 0", "saw 0 10 5 -0", "saw +0 10 5 0", "saw 5 4 5 0", "saw -1 4 5 0", "saw 0 10 2147483649 0", " 0 10 5 0", "wave 0 10 5 0", "saw 0 10 5 x", "saw 0 10 5 0\n", "saw 0 10 5 9223372036854775808"} {
		if got, err := Parse(text); got != (Shape{}) || err != api.ErrForm {
			t.Errorf("%q: %+v, %d", text, got, err)
		}
	}
}

func TestP54_5LowToHighAndOverAndOver(t *testing.T) {
	for kind := Flat; kind <= Peak; kind++ {
		for _, period := range []int64{1, 2, 3, 8, 9} {
			s := Shape{kind, 13, 77, period, -5}
			for tick := int64(-30); tick < 30; tick++ {
				if x := At(s, tick); x < 13 || x > 77 || x != At(s, tick+period) {
					t.Fatal(s, tick, x)
				}
			}
		}
	}
}
