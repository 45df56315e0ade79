package policy

import (
	"math"
	"strings"
	"testing"

	"flywheel/api"
)

func turned(turn func(p *api.Policy)) api.Policy {
	p := Usual()
	turn(&p)
	return p
}

func right() []api.Policy {
	return []api.Policy{
		Usual(),
		{Min: 0, Max: 1, Target: 1, Tolerance: 0, Window: 1, Hold: 0},
		{Min: 1 << 30, Max: 1 << 30, Target: math.MaxInt64, Tolerance: 999, Window: math.MaxInt64, Hold: math.MaxInt64},
		turned(func(p *api.Policy) { p.Min = 10 }),
	}
}

func wrong() []api.Policy {
	return []api.Policy{
		{},
		turned(func(p *api.Policy) { p.Min = -1 }),
		turned(func(p *api.Policy) { p.Min = 11 }),
		turned(func(p *api.Policy) { p.Min, p.Max = 0, 0 }),
		turned(func(p *api.Policy) { p.Min, p.Max = -3, -2 }),
		turned(func(p *api.Policy) { p.Max = 1<<30 + 1 }),
		turned(func(p *api.Policy) { p.Target = 0 }),
		turned(func(p *api.Policy) { p.Tolerance = -1 }),
		turned(func(p *api.Policy) { p.Tolerance = 1000 }),
		turned(func(p *api.Policy) { p.Window = 0 }),
		turned(func(p *api.Policy) { p.Hold = -1 }),
	}
}

func TestP12_1CheckAndUsual(t *testing.T) {
	if Usual() != (api.Policy{Min: 1, Max: 10, Target: 100, Tolerance: 100, Window: 5, Hold: 3}) {
		t.Error(Usual())
	}
	for _, p := range right() {
		if Check(p) != api.OK {
			t.Errorf("%+v may be", p)
		}
	}
	for _, p := range wrong() {
		if Check(p) != api.ErrPolicy {
			t.Errorf("%+v may not be", p)
		}
	}
}

func TestP12_1Has(t *testing.T) {
	p := turned(func(p *api.Policy) { p.Min = 2 })
	for n, want := range map[int64]bool{1: false, 2: true, 5: true, 10: true, 11: false, -1: false, math.MaxInt64: false} {
		if Has(p, n) != want {
			t.Errorf("Has %d", n)
		}
	}
	for _, p := range wrong() {
		if Has(p, p.Min) || Has(p, 1) {
			t.Errorf("%+v has nothing", p)
		}
	}
}

func TestP12_2Text(t *testing.T) {
	if s := Text(Usual()); s != "min 1 max 10 target 100 tolerance 100 window 5 hold 3" {
		t.Error(s)
	}
	if s := Text(api.Policy{Min: -1, Hold: math.MinInt64, Target: math.MaxInt64}); s != "min -1 max 0 target 9223372036854775807 tolerance 0 window 0 hold -9223372036854775808" {
		t.Error(s)
	}
}

func TestP12_3AndP12_4Parse(t *testing.T) {
	for _, p := range right() {
		if got, err := Parse(Text(p)); got != p || err != api.OK {
			t.Errorf("%+v: %+v, %d", p, got, err)
		}
	}
	for _, p := range wrong() {
		if got, err := Parse(Text(p)); got != (api.Policy{}) || err != api.ErrPolicy {
			t.Errorf("%+v: %+v, %d", p, got, err)
		}
	}
	usual := Text(Usual())
	for _, s := range []string{
		"", " ", usual + " ", " " + usual, usual + "\n", strings.Replace(usual, " ", "  ", 1), strings.Replace(usual, "min", "Min", 1), strings.Replace(usual, "min 1 max 10", "max 10 min 1", 1),
		strings.Replace(usual, "10 ", "010 ", 1), strings.Replace(usual, "10 ", "+10 ", 1), strings.Replace(usual, "10 ", "-0 ", 1), strings.TrimSuffix(usual, " hold 3"), strings.TrimSuffix(usual, " 3"), usual + " more 1",
		strings.Replace(usual, "100", "9223372036854775808", 1), strings.Replace(usual, "100", "x", 1), strings.Replace(usual, " ", "\t", 1), strings.Replace(usual, "hold 3", "hold ", 1),
	} {
		if got, err := Parse(s); got != (api.Policy{}) || err != api.ErrForm {
			t.Errorf("Parse(%q) = %+v, %d", s, got, err)
		}
	}
}

func TestP12_4UnlikeTexts(t *testing.T) {
	seen := map[string]api.Policy{}
	for _, p := range append(right(), wrong()...) {
		if _, ok := seen[Text(p)]; ok {
			t.Errorf("two have %q", Text(p))
		}
		seen[Text(p)] = p
	}
}
