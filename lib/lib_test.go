package lib

import (
	"math"
	"testing"

	"tranship/api"
)

var inf = math.Inf(1)

func TestTheLibraryHolds(t *testing.T) {
	for n := 1; n <= api.Symbols; n++ {
		for _, l := range [][2]int{{0, 0}, {0, 1}, {2, 1}, {900, 900}, {0, 900}, {900, 3}} {
			for _, fuel := range []float64{1000, 1e9, inf} {
				if e := Holds(n, l[0], l[1], fuel); e != api.OK {
					t.Error(n, l, fuel, e)
				}
			}
		}
	}
}

func TestLittleFuel(t *testing.T) {
	spent := 0
	for n := 1; n <= api.Symbols; n++ {
		for _, fuel := range []float64{math.NaN(), -inf, -1, 0, 0.5, 1, 2, 5, 20} {
			e := Holds(n, 1, 0, fuel)
			if e != api.OK && e != api.ErrFuel {
				t.Error(n, fuel, e)
			}
			if e == api.ErrFuel {
				spent++
			}
		}
	}
	if spent < 40 {
		t.Error(spent)
	}
}

func TestArguments(t *testing.T) {
	for _, c := range [][3]int{{0, 0, 0}, {22, 0, 0}, {-1, 0, 0}, {3, -1, 0}, {3, 0, -1}, {3, 901, 0}, {3, 0, 901}, {3, 1 << 40, 0}, {0, 901, 0}} {
		for _, fuel := range []float64{inf, 0, math.NaN()} {
			if e := Holds(c[0], c[1], c[2], fuel); e != api.ErrArg {
				t.Error(c, e)
			}
		}
	}
}
