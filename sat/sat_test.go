package sat

import (
	"math"
	"math/big"
	"testing"
)

var edges = []int64{math.MinInt64, math.MinInt64 + 1, -1 << 62, -1 << 32, -7, -3, -2, -1, 0, 1, 2, 3, 7, 1 << 31, 1 << 32, 3037000500, 1 << 62, math.MaxInt64 - 1, math.MaxInt64}

func stopped(x *big.Int) int64 {
	if x.Cmp(big.NewInt(math.MaxInt64)) > 0 {
		return math.MaxInt64
	}
	if x.Cmp(big.NewInt(math.MinInt64)) < 0 {
		return math.MinInt64
	}
	return x.Int64()
}

func TestP1_1AndP1_4AgainstWholeNumbers(t *testing.T) {
	for _, a := range edges {
		for _, b := range edges {
			x, y := big.NewInt(a), big.NewInt(b)
			if got, want := Add(a, b), stopped(new(big.Int).Add(x, y)); got != want || Add(b, a) != got {
				t.Errorf("Add(%d, %d) = %d, want %d", a, b, got, want)
			}
			if got, want := Sub(a, b), stopped(new(big.Int).Sub(x, y)); got != want {
				t.Errorf("Sub(%d, %d) = %d, want %d", a, b, got, want)
			}
			if got, want := Mul(a, b), stopped(new(big.Int).Mul(x, y)); got != want || Mul(b, a) != got {
				t.Errorf("Mul(%d, %d) = %d, want %d", a, b, got, want)
			}
		}
	}
}

func TestP1_1Sum(t *testing.T) {
	if Sum() != 0 || Sum(nil...) != 0 || Sum(4) != 4 || Sum(1, 2, 3) != 6 {
		t.Error("plain sums")
	}
	if Sum(math.MaxInt64, 1, -1) != math.MaxInt64-1 || Sum(math.MinInt64, -1, 1) != math.MinInt64+1 {
		t.Error("a sum stops at each step")
	}
}

func TestP1_2Clamp(t *testing.T) {
	for _, x := range [][4]int64{{5, 1, 9, 5}, {0, 1, 9, 1}, {10, 1, 9, 9}, {1, 1, 9, 1}, {9, 1, 9, 9}, {5, 7, 3, 7}, {1, 7, 3, 7}, {9, 7, 3, 7}, {4, 4, 4, 4}} {
		if got := Clamp(x[0], x[1], x[2]); got != x[3] {
			t.Errorf("Clamp(%d, %d, %d) = %d, want %d", x[0], x[1], x[2], got, x[3])
		}
	}
}

func TestP1_2AndP1_4Quotients(t *testing.T) {
	for _, a := range edges {
		for _, b := range edges {
			f, c := Floor(a, b), Ceil(a, b)
			if b < 1 {
				if f != 0 || c != 0 {
					t.Errorf("by %d: %d, %d, want 0, 0", b, f, c)
				}
				continue
			}
			want := new(big.Int).Div(big.NewInt(a), big.NewInt(b)).Int64()
			apart := int64(1)
			if a%b == 0 {
				apart = 0
			}
			if f != want || c != want+apart {
				t.Errorf("%d by %d: %d, %d, want %d, %d", a, b, f, c, want, want+apart)
			}
		}
	}
}

func TestP1_3Narrow(t *testing.T) {
	cases := []struct {
		n    int64
		bits int
		want int64
		same bool
	}{
		{200, 8, -56, false}, {-128, 8, -128, true}, {127, 8, 127, true}, {128, 8, -128, false},
		{1, 1, -1, false}, {-1, 1, -1, true}, {0, 1, 0, true}, {5, 64, 5, true}, {math.MinInt64, 64, math.MinInt64, true},
		{math.MinInt64, 63, 0, false}, {5, 0, 0, false}, {0, 0, 0, false}, {5, 65, 0, false}, {0, 65, 0, false}, {5, -1, 0, false}, {0, math.MinInt64, 0, false},
	}
	for _, c := range cases {
		if got, same := Narrow(c.n, c.bits); got != c.want || same != c.same {
			t.Errorf("Narrow(%d, %d) = %d, %v", c.n, c.bits, got, same)
		}
	}
	for _, n := range edges {
		for bits := 1; bits <= 64; bits++ {
			kept, same := Narrow(n, bits)
			if same != (kept == n) {
				t.Errorf("Narrow(%d, %d) tells %v of %d", n, bits, same, kept)
			}
			for more := bits; more <= 64; more++ {
				if again, ok := Narrow(kept, more); again != kept || !ok {
					t.Errorf("Narrow(%d, %d) does not stay so in %d bits", n, bits, more)
				}
			}
		}
	}
}
