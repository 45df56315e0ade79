package wide

import (
	"math"
	"math/big"
	"testing"
)

var words = []uint64{0, 1, 2, 3, 10, 1<<32 - 1, 1 << 32, 1<<32 + 1, 1<<63 - 1, 1 << 63, 1<<63 + 1, math.MaxUint64 - 1, math.MaxUint64, 0x123456789abcdef0}

func whole(x Two) *big.Int {
	n := new(big.Int).SetUint64(x.Hi)
	return n.Lsh(n, 64).Add(n, new(big.Int).SetUint64(x.Lo))
}

func twos() []Two {
	var l []Two
	for _, hi := range words {
		for _, lo := range words {
			l = append(l, Two{hi, lo})
		}
	}
	return l
}

func TestP2_1Mul(t *testing.T) {
	for _, a := range words {
		for _, b := range words {
			want := new(big.Int).Mul(new(big.Int).SetUint64(a), new(big.Int).SetUint64(b))
			if got := Mul(a, b); whole(got).Cmp(want) != 0 {
				t.Errorf("Mul(%d, %d) = %v, want %v", a, b, got, want)
			}
		}
	}
	if Mul(1<<63, 4) != (Two{2, 0}) {
		t.Error("2^65")
	}
}

func TestP2_1AddAndCmp(t *testing.T) {
	for _, x := range twos() {
		for _, y := range twos() {
			want := new(big.Int).Add(whole(x), whole(y))
			got, ok := Add(x, y)
			if want.BitLen() > 128 {
				if ok || got != (Two{}) {
					t.Fatalf("Add(%v, %v) = %v, %v beyond 128 bits", x, y, got, ok)
				}
			} else if !ok || whole(got).Cmp(want) != 0 {
				t.Fatalf("Add(%v, %v) = %v, %v", x, y, got, ok)
			}
			if Cmp(x, y) != whole(x).Cmp(whole(y)) {
				t.Fatalf("Cmp(%v, %v) = %d", x, y, Cmp(x, y))
			}
		}
	}
}

func TestP2_2AndP2_5Div(t *testing.T) {
	for _, x := range twos() {
		for _, d := range words {
			q, rest, ok := Div(x, d)
			if d == 0 {
				if ok || rest != 0 || q != (Two{}) {
					t.Fatalf("by 0: %v, %d, %v", q, rest, ok)
				}
				continue
			}
			back := new(big.Int).Mul(whole(q), new(big.Int).SetUint64(d))
			back.Add(back, new(big.Int).SetUint64(rest))
			if !ok || rest >= d || back.Cmp(whole(x)) != 0 {
				t.Fatalf("Div(%v, %d) = %v, %d, %v", x, d, q, rest, ok)
			}
		}
	}
}

func TestP2_3Small(t *testing.T) {
	for x, want := range map[Two]int64{{0, 0}: 0, {0, 7}: 7, {0, math.MaxInt64}: math.MaxInt64, {0, 1 << 63}: math.MaxInt64, {1, 0}: math.MaxInt64, {1, 5}: math.MaxInt64} {
		if got := Small(x); got != want {
			t.Errorf("Small(%v) = %d", x, got)
		}
	}
}

func TestP2_3Scale(t *testing.T) {
	for _, x := range [][4]int64{
		{10, 3, 4, 8}, {9, 3, 4, 7}, {8, 3, 4, 6}, {0, 5, 1, 0}, {5, 0, 3, 0}, {-1, 5, 3, 0}, {5, -1, 3, 0}, {5, 5, 0, 0}, {5, 5, -3, 0}, {1, 1, math.MaxInt64, 1},
		{math.MaxInt64, math.MaxInt64, math.MaxInt64, math.MaxInt64}, {math.MaxInt64, 2, 1, math.MaxInt64}, {math.MaxInt64, 3, 6, 1 << 62},
	} {
		if got := Scale(x[0], x[1], x[2]); got != x[3] {
			t.Errorf("Scale(%d, %d, %d) = %d, want %d", x[0], x[1], x[2], got, x[3])
		}
	}
}

func TestP2_4TotalAndMean(t *testing.T) {
	if Total(nil) != (Two{}) || Total([]int64{-5, 3, 0, 4, math.MinInt64}) != (Two{0, 7}) {
		t.Error("totals of the numbers above 0")
	}
	if Total([]int64{math.MaxInt64, math.MaxInt64, math.MaxInt64}) != (Two{1, 1<<63 - 3}) {
		t.Error("a total beyond 64 bits")
	}
	for _, c := range []struct {
		l    []int64
		want int64
	}{{nil, 0}, {[]int64{}, 0}, {[]int64{1, 2}, 2}, {[]int64{1, 1, 2}, 2}, {[]int64{4}, 4}, {[]int64{-4}, 0}, {[]int64{-4, 4}, 2}, {[]int64{-4, -4, 1}, 1}, {[]int64{math.MaxInt64, math.MaxInt64}, math.MaxInt64}} {
		if got := Mean(c.l); got != c.want {
			t.Errorf("Mean(%v) = %d, want %d", c.l, got, c.want)
		}
	}
}

func TestP2_5MeanIsWithin(t *testing.T) {
	for _, a := range []int64{0, 1, 5, math.MaxInt64} {
		for _, b := range []int64{0, 2, 7, math.MaxInt64} {
			if m := Mean([]int64{a, b, b}); m < min(a, b) || m > max(a, b) {
				t.Errorf("the mean of %d, %d, %d is %d", a, b, b, m)
			}
		}
	}
}
