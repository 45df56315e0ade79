package fnv

import (
	"encoding/binary"
	"hash/fnv"
	"math"
	"strings"
	"testing"

	"flywheel/api"
)

func TestP4_1SumsAgainstTheLibrary(t *testing.T) {
	for _, s := range []string{"", "a", "ab", "foobar", "\x00", "\xff\xfe", "ä€", strings.Repeat("long ", 1000)} {
		h32, h64 := fnv.New32a(), fnv.New64a()
		h32.Write([]byte(s))
		h64.Write([]byte(s))
		if Sum32(s) != h32.Sum32() || Sum64(s) != h64.Sum64() {
			t.Errorf("sums of %.10q: %d, %d", s, Sum32(s), Sum64(s))
		}
	}
	if Sum32("") != 2166136261 || Sum64("a") != 12638187200555641996 || Sum64("") != 14695981039346656037 {
		t.Error("the document's sums")
	}
}

func TestP4_1Key(t *testing.T) {
	for _, k := range []api.Key{{}, {Hi: 1}, {Lo: 1}, {Hi: 0x0102030405060708, Lo: 0x090a0b0c0d0e0f10}, {Hi: math.MaxUint64, Lo: math.MaxUint64}} {
		b := binary.BigEndian.AppendUint64(binary.BigEndian.AppendUint64(nil, k.Hi), k.Lo)
		if Key(k) != Sum64(string(b)) {
			t.Errorf("Key(%v)", k)
		}
	}
}

func TestP4_2Fold(t *testing.T) {
	for _, c := range []struct {
		h    uint64
		bits int
		want uint64
	}{{257, 8, 0}, {0x1234, 8, 0x26}, {5, 1, 1}, {4, 1, 0}, {3, 1, 0}, {math.MaxUint64, 32, 0}, {0xfffffffe00000001, 32, 0xffffffff}, {7, 0, 0}, {7, -1, 0}, {7, 33, 0}, {7, 64, 0}, {7, math.MinInt64, 0}, {1 << 63, 31, 0}, {1 << 62, 31, 0}, {1 << 61, 31, 1 << 30}} {
		if got := Fold(c.h, c.bits); got != c.want {
			t.Errorf("Fold(%#x, %d) = %#x, want %#x", c.h, c.bits, got, c.want)
		}
	}
}

func TestP4_3OneByteMore(t *testing.T) {
	for _, s := range []string{"", "x", "text"} {
		seen := map[uint64]bool{}
		for b := range 256 {
			more := Sum64(s + string([]byte{byte(b)}))
			if more != (Sum64(s)^uint64(b))*1099511628211 || seen[more] {
				t.Errorf("%q and the byte %d", s, b)
			}
			seen[more] = true
		}
	}
}
