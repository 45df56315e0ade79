package route

import (
	"math"
	"slices"
	"testing"

	"flywheel/api"
	"flywheel/fnv"
)

var wrong = []int{0, -1, 3, 6, 63, 65, 128, 1 << 20, math.MaxInt64, math.MinInt64}

func keys(n int) []api.Key {
	var l []api.Key
	for i := range n {
		l = append(l, api.Key{Hi: uint64(i) << 54, Lo: uint64(i * i)})
	}
	return l
}

func TestP5_1RightAndBits(t *testing.T) {
	for i := range 7 {
		if !Right(1<<i) || Bits(1<<i) != i {
			t.Errorf("%d stripes: %v, %d", 1<<i, Right(1<<i), Bits(1<<i))
		}
	}
	for _, n := range wrong {
		if Right(n) || Bits(n) != 0 {
			t.Errorf("%d stripes: %v, %d", n, Right(n), Bits(n))
		}
	}
}

func TestP5_1AndP5_3Of(t *testing.T) {
	for _, k := range keys(500) {
		for bits, n := range []int{1, 2, 4, 8, 16, 32, 64} {
			i := Of(k, n)
			if i != int(fnv.Fold(fnv.Key(k), bits)) || i < 0 || i >= n {
				t.Fatalf("Of(%v, %d) = %d", k, n, i)
			}
		}
		if Of(k, 1) != 0 {
			t.Fatal("one stripe")
		}
	}
	for _, n := range wrong {
		if Of(api.Key{}, n) != -1 {
			t.Errorf("Of of %d stripes", n)
		}
	}
}

func TestP5_2AndP5_3Split(t *testing.T) {
	l := append(keys(300), keys(20)...)
	for _, n := range []int{1, 2, 8, 64} {
		parts := Split(l, n)
		if len(parts) != n {
			t.Fatalf("%d parts of %d", len(parts), n)
		}
		for i, part := range parts {
			want := slices.DeleteFunc(slices.Clone(l), func(k api.Key) bool { return Of(k, n) != i })
			if !slices.Equal(part, want) {
				t.Errorf("the stripe %d of %d", i, n)
			}
		}
	}
	if len(Split(nil, 4)) != 4 {
		t.Error("stripes without keys")
	}
	for _, n := range wrong {
		if len(Split(l, n)) != 0 {
			t.Errorf("Split in %d", n)
		}
	}
}

func TestP5_2Heaviest(t *testing.T) {
	l := keys(100)
	for _, n := range []int{1, 4, 64} {
		best, most := Heaviest(l, n)
		for i, part := range Split(l, n) {
			if len(part) > most || len(part) == most && i < best || i == best && len(part) != most {
				t.Errorf("of %d: %d has %d, but %d has %d", n, best, most, i, len(part))
			}
		}
	}
	one, other := l[0], l[1]
	for _, k := range l {
		if Of(k, 64) < Of(one, 64) {
			one, other = k, one
		}
	}
	if i, most := Heaviest([]api.Key{other, one}, 64); i != Of(one, 64) || most != 1 || Of(one, 64) == Of(other, 64) {
		t.Error("of two as heavy the first one counts:", i, most)
	}
	for _, n := range []int{1, 8} {
		if i, most := Heaviest(nil, n); i != 0 || most != 0 {
			t.Error("no keys:", i, most)
		}
	}
	for _, n := range wrong {
		if i, most := Heaviest(l, n); i != -1 || most != 0 {
			t.Errorf("Heaviest of %d: %d, %d", n, i, most)
		}
	}
}
