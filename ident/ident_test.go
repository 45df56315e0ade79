package ident

import (
	"math"
	"slices"
	"strings"
	"testing"

	"flywheel/api"
)

func TestP3_1Check(t *testing.T) {
	for _, s := range []string{"a", "-", ".", "_", "0", "9", "z", "web-1.prod_x", strings.Repeat("z", 20), letters[:20], letters[19:]} {
		if Check(s) != api.OK {
			t.Errorf("%q is an id", s)
		}
	}
	for _, s := range []string{"", strings.Repeat("a", 21), "A", "a b", "a\x00", "ä", "\xff", "aß", "`", "{", "/", ":", ",", "^", "\ufffd", "a\n"} {
		if Check(s) != api.ErrId {
			t.Errorf("%q is no id", s)
		}
		if k, err := Pack(s); k != (api.Key{}) || err != api.ErrId {
			t.Errorf("Pack(%q) = %v, %d", s, k, err)
		}
	}
	for b := range 256 {
		s := string([]byte{byte(b)})
		if (Check(s) == api.OK) != (strings.IndexByte(letters, byte(b)) >= 0) {
			t.Errorf("the byte %d", b)
		}
	}
}

func TestP3_2Pack(t *testing.T) {
	if len(letters) != 39 {
		t.Fatal("there are 39 letters")
	}
	for i := range letters {
		if k, err := Pack(letters[i : i+1]); err != api.OK || k != (api.Key{Hi: uint64(i+1) << 54}) {
			t.Errorf("%q: %v, %d", letters[i:i+1], k, err)
		}
	}
	if k, _ := Pack("a-z"); k != (api.Key{Hi: 14<<54 | 1<<48 | 39<<42}) {
		t.Error(k)
	}
	var want api.Key
	for i := range 10 {
		want.Hi |= 14 << (54 - 6*i)
		want.Lo |= 15 << (54 - 6*i)
	}
	if k, err := Pack("aaaaaaaaaabbbbbbbbbb"); k != want || err != api.OK {
		t.Error(k, err)
	}
	if k, _ := Pack("aaaaaaaaaab"); k != (api.Key{Hi: want.Hi, Lo: 15 << 54}) {
		t.Error(k)
	}
}

func TestP3_2Unpack(t *testing.T) {
	for _, s := range []string{"a", "z", "-", "aaaaaaaaaa", "aaaaaaaaaaz", "abcdefghij0123456789"} {
		k, _ := Pack(s)
		if got, ok := Unpack(k); got != s || !ok || !Right(k) {
			t.Errorf("Unpack of Pack(%q) = %q, %v", s, got, ok)
		}
	}
	full, _ := Pack("aaaaaaaaaa")
	for _, k := range []api.Key{
		{}, {Lo: 14 << 54}, {Hi: 14 << 54, Lo: 14 << 54}, {Hi: 40 << 54}, {Hi: 63 << 54}, {Hi: 14<<54 | 1<<60}, {Hi: 14<<54 | 1<<63}, {Hi: 14<<54 | 14<<42}, {Hi: 14 << 48},
		{Hi: full.Hi, Lo: 1 << 60}, {Hi: full.Hi, Lo: 14 << 48}, {Hi: full.Hi, Lo: 40 << 54}, {Hi: math.MaxUint64, Lo: math.MaxUint64}, {Hi: 14<<54 | 1},
	} {
		if got, ok := Unpack(k); got != "" || ok || Right(k) {
			t.Errorf("Unpack(%v) = %q, %v", k, got, ok)
		}
	}
}

func TestP3_3CmpAndRising(t *testing.T) {
	l := []api.Key{{}, {Lo: 1}, {Lo: math.MaxUint64}, {Hi: 1}, {Hi: 1, Lo: 1}, {Hi: math.MaxUint64}}
	for i, a := range l {
		for j, b := range l {
			want := 0
			if i < j {
				want = -1
			} else if i > j {
				want = 1
			}
			if Cmp(a, b) != want {
				t.Errorf("Cmp(%v, %v) = %d", a, b, Cmp(a, b))
			}
		}
	}
	given := []api.Key{l[3], l[1], l[3], l[0], l[5], l[1]}
	kept := slices.Clone(given)
	if got := Rising(given); !slices.Equal(got, []api.Key{l[0], l[1], l[3], l[5]}) {
		t.Error(got)
	}
	if !slices.Equal(given, kept) {
		t.Error("Rising changed what it was given")
	}
	one := given[:1]
	Rising(one)[0] = api.Key{Hi: 77}
	if given[0] != kept[0] || len(Rising(nil)) != 0 {
		t.Error("Rising shares memory")
	}
}

func TestP3_4OrderOfBytes(t *testing.T) {
	ids := []string{"a", "-", ".", "a.", "a-", "ab", "b", "_", "0", "9", "aaaaaaaaaa", "aaaaaaaaaaa", "aaaaaaaaab", "aaaaaaaaaa-", "z", "zz", "a_", "a0"}
	for _, a := range ids {
		for _, b := range ids {
			x, _ := Pack(a)
			y, _ := Pack(b)
			if Cmp(x, y) != strings.Compare(a, b) {
				t.Errorf("%q and %q", a, b)
			}
		}
	}
}
