package erase

import (
	"testing"

	"tranship/api"
	"tranship/lift"
	"tranship/subst"
	"tranship/term"
)

func mk(kind int, kids ...api.Term) api.Term { return api.Term{Kind: kind, Kids: kids} }
func s(i int) api.Term                       { return api.Term{Kind: api.Sort, I: i} }
func v(i int) api.Term                       { return api.Term{Kind: api.Var, I: i} }
func tr(x api.Term) api.Term                 { return mk(api.Tr, v(1), v(2), mk(api.PFst, v(3)), x) }

var zero api.Term

// samples are marked terms with their erasures and the numbers of their Trs.
func samples() []struct {
	t, e api.Term
	n    int
} {
	lam := api.Term{Kind: api.Lam, I: 1, J: 2, Kids: []api.Term{tr(v(0)), tr(tr(v(1))), mk(api.Eq, v(0), tr(v(1)), v(2))}}
	bare := api.Term{Kind: api.Lam, I: 1, J: 2, Kids: []api.Term{v(0), v(1), mk(api.Eq, v(0), v(1), v(2))}}
	return []struct {
		t, e api.Term
		n    int
	}{
		{s(4), s(4), 0}, {v(7), v(7), 0}, {tr(v(0)), v(0), 1}, {tr(tr(s(1))), s(1), 2}, {lam, bare, 4},
		{mk(api.Tr, lam, tr(lam), mk(api.PFst, v(3)), lam), bare, 14},
		{mk(api.App, tr(v(0)), v(0), tr(lam), v(3)), mk(api.App, v(0), v(0), bare, v(3)), 6},
	}
}

func bad() []api.Term {
	return []api.Term{zero, mk(api.PFst, v(0)), mk(api.Refl, v(0)), mk(api.Refl, v(0), mk(api.PFst, v(0))), mk(api.Tr, v(0), v(0), mk(api.Refl, s(0), s(0)), v(0)), v(-1)}
}

func TestErase(t *testing.T) {
	for i, c := range samples() {
		if got := Erase(c.t); !term.Same(got, c.e) || !term.Pure(got) {
			t.Error(i, got)
		}
		if got := Erase(c.e); !term.Same(got, c.e) {
			t.Error("pure", i, got)
		}
		if got := Count(c.t); got != c.n || Count(c.e) != 0 {
			t.Error("count", i, got)
		}
		if !term.Same(Erase(lift.Lift(c.t, 3, 1)), lift.Lift(c.e, 3, 1)) {
			t.Error("lifted", i)
		}
		for j, u := range samples() {
			if !term.Same(Erase(subst.Put(c.t, u.t)), subst.Put(c.e, u.e)) {
				t.Error("put", i, j)
			}
		}
	}
	for i, x := range bad() {
		if !term.Same(Erase(x), zero) || Count(x) != 0 {
			t.Error("bad", i)
		}
	}
}

func TestRelated(t *testing.T) {
	for i, a := range samples() {
		for j, b := range samples() {
			if want := term.Same(a.e, b.e); Related(a.t, b.t) != want || Related(a.t, b.e) != want {
				t.Error(i, j, want)
			}
		}
		for j, x := range bad() {
			if Related(a.t, x) || Related(x, a.t) || Related(x, x) {
				t.Error("bad", i, j)
			}
		}
	}
	a, b := api.Term{Kind: api.Pi, I: 1, Kids: []api.Term{s(0), s(0)}}, api.Term{Kind: api.Pi, J: 1, Kids: []api.Term{s(0), s(0)}}
	if Related(a, b) || Related(tr(v(0)), tr(v(1))) || Related(mk(api.Pi, s(0), s(0)), mk(api.Sig, s(0), s(0))) {
		t.Error("other terms")
	}
}

func TestResultIsNew(t *testing.T) {
	x := mk(api.Refl, mk(api.Refl, v(0), v(1)), v(0))
	y := Erase(x)
	x.Kids[0].Kids[0] = s(3)
	if y.Kids[0].Kids[0].Kind != api.Var {
		t.Error("shared")
	}
}
