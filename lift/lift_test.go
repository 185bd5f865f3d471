package lift

import (
	"math"
	"testing"

	"tranship/api"
	"tranship/term"
)

func mk(kind int, kids ...api.Term) api.Term { return api.Term{Kind: kind, Kids: kids} }
func s(i int) api.Term                       { return api.Term{Kind: api.Sort, I: i} }
func v(i int) api.Term                       { return api.Term{Kind: api.Var, I: i} }

// wide has every binder, and under each one the variables f(0), f(1) and f(2) of the binders around it.
func wide(f func(v, b int) int) api.Term {
	at := func(b int) api.Term {
		return mk(api.PEq, v(f(0, b)), v(f(1, b)), v(f(2, b)))
	}
	m := func(b int) api.Term {
		return mk(api.Eq, v(f(0, b)), v(f(1, b)), v(f(2, b)))
	}
	p := mk(api.PJ, at(0), at(0), at(2), at(0), mk(api.PPair, at(0), at(1), at(0), at(0)), mk(api.PPi, at(0), mk(api.PSig, at(1), mk(api.PLam, at(2), at(3)))))
	x := mk(api.Pair, m(0), m(1), m(0), mk(api.Lam, m(0), m(1), mk(api.Pi, m(1), mk(api.Sig, m(2), m(3)))))
	y := mk(api.App, m(0), mk(api.Fst, m(1), m(2), m(1)), m(0), mk(api.Snd, m(0), m(1), m(0)))
	return mk(api.Tr, x, y, p, m(0))
}

func TestLift(t *testing.T) {
	plain := wide(func(v, b int) int { return v })
	for k := 0; k < 4; k++ {
		for from := 0; from < 4; from++ {
			want := wide(func(v, b int) int {
				if v >= from+b {
					return v + k
				}
				return v
			})
			if got := Lift(plain, k, from); !term.Same(got, want) {
				t.Error(k, from, got)
			}
		}
	}
	if got := Lift(mk(api.PLam, s(0), mk(api.PApp, v(0), v(1))), 2, 0); !term.Same(got, mk(api.PLam, s(0), mk(api.PApp, v(0), v(3)))) {
		t.Error(got)
	}
}

func TestLiftTwice(t *testing.T) {
	x := wide(func(v, b int) int { return v + b })
	for from := 0; from < 3; from++ {
		if !term.Same(Lift(Lift(x, 2, from), 3, from), Lift(x, 5, from)) {
			t.Error(from)
		}
	}
	if !term.Same(Lift(x, 9, term.Free(x)), x) || !term.Same(Lift(x, 0, 0), x) {
		t.Error("nothing to lift")
	}
}

func TestLiftRefuses(t *testing.T) {
	top := 1<<31 - 1
	for i, x := range []api.Term{
		Lift(mk(api.PApp, v(0)), 1, 0), Lift(api.Term{}, 0, 0), Lift(v(0), -1, 0), Lift(v(0), 0, -1), Lift(v(top), 1, 0), Lift(v(1), math.MaxInt, 0),
		Lift(mk(api.PApp, v(0), v(top-3)), 4, 0), Lift(mk(api.PLam, s(0), v(top)), 1, 3),
	} {
		if !term.Same(x, api.Term{}) {
			t.Error(i, x)
		}
	}
	if !term.Same(Lift(v(top-3), 3, 0), v(top)) || !term.Same(Lift(v(5), math.MaxInt, 6), v(5)) || !term.Same(Lift(s(4), math.MaxInt, 0), s(4)) {
		t.Error("edges")
	}
}

func TestRename(t *testing.T) {
	to := []int{7, 0, 1 << 30}
	got, ok := Rename(wide(func(v, b int) int { return v + b }), to)
	if !ok || !term.Same(got, wide(func(v, b int) int { return to[v] + b })) {
		t.Error(got, ok)
	}
	bound := wide(func(v, b int) int { return v % (b + 1) })
	got, ok = Rename(bound, []int{4})
	want := wide(func(v, b int) int {
		if n := v % (b + 1); n < b {
			return n
		}
		return 4 + b
	})
	if !ok || !term.Same(got, want) {
		t.Error(got, ok)
	}
	if got, ok = Rename(s(3), nil); !ok || !term.Same(got, s(3)) {
		t.Error(got, ok)
	}
}

func TestRenameRefuses(t *testing.T) {
	for i, c := range []struct {
		t  api.Term
		to []int
	}{
		{v(0), nil}, {v(1), []int{0}}, {mk(api.PLam, s(0), v(2)), []int{5}}, {s(0), []int{-1}}, {v(0), []int{0, 1<<30 + 1}}, {mk(api.PApp, v(0)), []int{0}}, {api.Term{}, nil}, {v(-1), []int{1, 2}},
	} {
		if got, ok := Rename(c.t, c.to); ok || !term.Same(got, api.Term{}) {
			t.Error(i, got, ok)
		}
	}
}

func TestResultsAreNew(t *testing.T) {
	x := mk(api.PApp, mk(api.PApp, s(0), s(1)), s(2))
	y := Lift(x, 1, 0)
	z, _ := Rename(x, nil)
	x.Kids[0].Kids[0] = s(9)
	if y.Kids[0].Kids[0].I != 0 || z.Kids[0].Kids[0].I != 0 {
		t.Error("shared")
	}
}
