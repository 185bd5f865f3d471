package budget

import (
	"math"
	"testing"
)

var (
	inf  = math.Inf(1)
	nan  = math.NaN()
	zero = math.Copysign(0, -1)
)

func same(a, b float64) bool {
	return math.IsNaN(a) && math.IsNaN(b) || a == b && math.Signbit(a) == math.Signbit(b)
}

func TestWithin(t *testing.T) {
	for _, c := range []struct {
		n    int
		most float64
		want bool
	}{
		{0, zero, true}, {0, 0, true}, {0, nan, false}, {-5, nan, false}, {1, 0.5, false}, {0, 0.5, true}, {0, -0.5, false},
		{2, 2, true}, {3, 2.9, false}, {math.MaxInt, inf, true}, {math.MinInt, -inf, false}, {-3, -2.5, true}, {math.MaxInt, 1e300, true},
		{math.MaxInt, float64(math.MaxInt), true},
	} {
		if Within(c.n, c.most) != c.want {
			t.Error(c)
		}
	}
}

func TestLeast(t *testing.T) {
	for _, c := range []struct {
		l    []float64
		want float64
	}{
		{nil, inf}, {[]float64{3}, 3}, {[]float64{3, 2, 5}, 2}, {[]float64{inf, inf}, inf}, {[]float64{-inf, 1}, -inf},
		{[]float64{zero}, 0}, {[]float64{0, zero}, 0}, {[]float64{zero, 0, 7}, 0}, {[]float64{nan}, nan}, {[]float64{1, nan}, nan},
		{[]float64{nan, -inf}, nan}, {[]float64{-1, zero}, -1}, {[]float64{0.5, 0.25}, 0.25},
	} {
		if got := Least(c.l...); !same(got, c.want) {
			t.Error(c, got)
		}
	}
}

func TestTake(t *testing.T) {
	b := New(2.5)
	if !b.Take(2) || b.Take(1) || b.Used() != 2 || !same(b.Left(), 0) || !b.Take(0) {
		t.Error("2.5", b.Used(), b.Left())
	}
	b = New(inf)
	if !b.Take(math.MaxInt) || b.Take(1) || !b.Take(0) || b.Used() != math.MaxInt || !same(b.Left(), inf) {
		t.Error("Inf", b.Used(), b.Left())
	}
	b = New(10)
	if b.Take(-1) || b.Used() != 0 || b.Take(11) || !b.Take(10) || b.Take(math.MaxInt) || b.Used() != 10 {
		t.Error("10", b.Used())
	}
	for _, most := range []float64{nan, -1, -inf, -0.5} {
		b = New(most)
		if b.Take(0) || b.Take(1) || b.Used() != 0 || !same(b.Left(), 0) {
			t.Error(most, b.Used(), b.Left())
		}
	}
}

func TestLeft(t *testing.T) {
	for _, c := range []struct {
		most float64
		take int
		want float64
	}{{5.9, 2, 3}, {5.9, 5, 0}, {0.9, 0, 0}, {zero, 0, 0}, {1e300, 7, 1e300}, {3, 0, 3}, {-0.9, 0, 0}, {inf, 3, inf}} {
		b := New(c.most)
		b.Take(c.take)
		if got := b.Left(); !same(got, c.want) {
			t.Error(c, got)
		}
	}
}

func TestNilAndZero(t *testing.T) {
	var none *Budget
	if none.Take(0) || none.Take(1) || none.Used() != 0 || !same(none.Left(), 0) {
		t.Error("nil")
	}
	var b Budget
	if !b.Take(0) || b.Take(1) || b.Used() != 0 || !same(b.Left(), 0) {
		t.Error("zero")
	}
}

func TestTwoBudgetsAreApart(t *testing.T) {
	a, b := New(4), New(4)
	a.Take(3)
	if b.Used() != 0 || !b.Take(4) || a.Take(2) || !a.Take(1) {
		t.Error(a.Used(), b.Used())
	}
}
