package digits

import (
	"math"
	"testing"
)

func TestNumbersAreReadAsTheyWere(t *testing.T) {
	for _, n := range []int64{0, 1, -1, 10, math.MaxInt64, math.MinInt64} {
		if got, ok := Parse(Text(n)); got != n || !ok {
			t.Errorf("%d: %d, %v", n, got, ok)
		}
	}
}

func TestOtherTextsAreNone(t *testing.T) {
	for _, s := range []string{"", "-", "+1", "01", "-0", "-01", "1 ", " 1", "1_0", "0x1", "1e3", "9223372036854775808", "-9223372036854775809", "a", "١"} {
		if n, ok := Parse(s); n != 0 || ok {
			t.Errorf("%q: %d, %v", s, n, ok)
		}
	}
}
