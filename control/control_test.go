package control

import (
	"math"
	"math/big"
	"testing"

	"flywheel/api"
	"flywheel/policy"
)

const most, least = math.MaxInt64, math.MinInt64

var usual = policy.Usual()

func with(min, max, target, tolerance int64) api.Policy {
	return api.Policy{Min: min, Max: max, Target: target, Tolerance: tolerance, Window: 1}
}

var loads = []int64{least, -5, 0, 1, 50, 89, 90, 91, 99, 100, 101, 109, 110, 111, 150, 180, 219, 220, 221, 250, 999, 1000, 1001, 5000, 1 << 40, most - 1, most}
var nows = []int64{least, -1, 0, 1, 2, 3, 9, 10, 11, 1<<30 - 1, 1 << 30, 1<<30 + 1, most}

func policies() []api.Policy {
	return []api.Policy{usual, with(0, 1, 1, 0), with(2, 5, 100, 0), with(0, 1<<30, most, 999), with(1<<30, 1<<30, most, 0), with(0, 1<<30, 3, 500)}
}

func TestP13_1WantAndBound(t *testing.T) {
	for load, want := range map[int64]int64{0: 0, 1: 1, 100: 1, 101: 2, 250: 3, -1: 0, least: 0, most: 92233720368547759} {
		if got := Want(usual, load); got != want {
			t.Errorf("Want of %d: %d", load, got)
		}
	}
	for n, want := range map[int64]int64{0: 1, 1: 1, 5: 5, 10: 10, 11: 10, least: 1, most: 10} {
		if got := Bound(usual, n); got != want {
			t.Errorf("Bound of %d: %d", n, got)
		}
	}
}

func TestP13_2Near(t *testing.T) {
	for _, p := range policies() {
		for _, load := range loads {
			for _, now := range nows {
				is := new(big.Int).Mul(big.NewInt(1000), big.NewInt(max(load, 0)))
				unit := new(big.Int).Mul(big.NewInt(now), big.NewInt(p.Target))
				off := new(big.Int).Sub(is, new(big.Int).Mul(unit, big.NewInt(1000)))
				want := now >= 1 && now <= 1<<30 && off.CmpAbs(new(big.Int).Mul(unit, big.NewInt(p.Tolerance))) <= 0
				if Near(p, load, now) != want {
					t.Errorf("Near(%+v, %d, %d) is not %v", p, load, now, want)
				}
			}
		}
	}
	if !Near(usual, 219, 2) || !Near(usual, 220, 2) || Near(usual, 221, 2) || !Near(usual, 180, 2) || Near(usual, 179, 2) {
		t.Error("the tolerance of two")
	}
}

func TestP13_3AndP13_5Raw(t *testing.T) {
	for _, p := range policies() {
		for _, now := range nows {
			ahead := int64(least)
			for _, load := range loads {
				got := Raw(p, load, now)
				want := Bound(p, Want(p, load))
				if Near(p, load, now) {
					want = Bound(p, now)
				}
				if got != want || got < p.Min || got > p.Max || got < ahead {
					t.Errorf("Raw(%+v, %d, %d) = %d, want %d, behind %d", p, load, now, got, want, ahead)
				}
				ahead = got
			}
		}
	}
	if Raw(usual, 219, 2) != 2 || Raw(usual, 221, 2) != 3 || Raw(usual, 5000, 2) != 10 || Raw(usual, 0, 2) != 1 || Raw(usual, 1200, 12) != 10 {
		t.Error("the usual policy")
	}
}

func TestP13_4LowAndHigh(t *testing.T) {
	for _, p := range policies() {
		for _, n := range nows {
			low, lowOK := Low(p, n)
			high, highOK := High(p, n)
			if lowOK != (n >= 1 && n <= 1<<30) || highOK != (n >= 0 && n <= 1<<30) || !lowOK && low != 0 || !highOK && high != 0 {
				t.Errorf("of %d: %d, %v, %d, %v", n, low, lowOK, high, highOK)
			}
			if lowOK && low < most && (Want(p, low) != n || Want(p, low-1) != n-1) {
				t.Errorf("Low of %d: %d", n, low)
			}
			if highOK && high < most && (Want(p, high) != n || Want(p, high+1) != n+1) {
				t.Errorf("High of %d: %d", n, high)
			}
		}
	}
	big := with(0, 1, most, 0)
	if n, ok := Low(big, 3); n != most || !ok {
		t.Error(n, ok)
	}
	if n, ok := High(big, 3); n != most || !ok {
		t.Error(n, ok)
	}
	if n, ok := High(usual, 0); n != 0 || !ok {
		t.Error(n, ok)
	}
}

func TestP13_5NearInTheMiddle(t *testing.T) {
	strict := with(0, 1<<30, 7, 0)
	for now := int64(1); now < 50; now++ {
		for load := int64(0); load < 400; load++ {
			if Near(strict, load, now) != (load == 7*now) {
				t.Fatalf("without tolerance: %d of %d", load, now)
			}
		}
	}
}

func TestWithoutAPolicyThatMayBe(t *testing.T) {
	for _, p := range []api.Policy{{}, with(0, 0, 1, 0), with(-1, 5, 1, 0), with(0, 5, 0, 0), with(0, 5, 1, 1000), {Max: 5, Target: 1}} {
		low, lowOK := Low(p, 1)
		high, highOK := High(p, 1)
		if Want(p, 500) != 0 || Bound(p, 3) != 0 || Near(p, 1, 1) || Raw(p, 500, 3) != 0 || low != 0 || lowOK || high != 0 || highOK {
			t.Errorf("%+v", p)
		}
	}
}
