package subst

import (
	"testing"

	"tranship/api"
	"tranship/lift"
	"tranship/strip"
	"tranship/term"
)

func mk(kind int, kids ...api.Term) api.Term { return api.Term{Kind: kind, Kids: kids} }
func s(i int) api.Term                       { return api.Term{Kind: api.Sort, I: i} }
func v(i int) api.Term                       { return api.Term{Kind: api.Var, I: i} }

const top = 1<<31 - 1

var zero api.Term

// two are a marked term and a plain one with variables under every number of binders.
func two() (api.Term, api.Term) {
	p := mk(api.PJ, v(0), v(1), mk(api.PLam, v(3), mk(api.PApp, v(3), v(2))), v(2), s(1), v(0))
	m := mk(api.Lam, v(0), mk(api.Pi, v(1), v(2)), mk(api.Tr, v(1), v(0), p, mk(api.App, v(2), v(3), v(1), v(0))))
	return m, p
}

func TestPut(t *testing.T) {
	marked := mk(api.Refl, v(0), s(2))
	plain := mk(api.PRefl, v(0), s(2))
	for i, c := range []struct{ t, u, want api.Term }{
		{mk(api.PApp, v(0), v(1)), s(3), mk(api.PApp, s(3), v(0))},
		{v(0), marked, marked}, {v(0), plain, plain}, {v(3), marked, v(2)}, {s(4), plain, s(4)},
		{mk(api.PFst, v(0)), marked, mk(api.PFst, plain)}, {mk(api.PFst, v(0)), plain, mk(api.PFst, plain)},
		{mk(api.Eq, v(0), v(1), v(2)), marked, mk(api.Eq, marked, v(0), v(1))},
		{mk(api.PLam, v(0), v(0)), v(5), mk(api.PLam, v(5), v(0))}, {mk(api.PLam, v(1), v(1)), v(5), mk(api.PLam, v(0), v(6))}, {mk(api.PLam, s(0), v(2)), v(5), mk(api.PLam, s(0), v(1))},
		{mk(api.PJ, s(0), s(0), mk(api.PApp, v(1), v(2)), v(0), v(1), s(0)), plain, mk(api.PJ, s(0), s(0), mk(api.PApp, v(1), mk(api.PRefl, v(2), s(2))), plain, v(0), s(0))},
		{mk(api.Tr, v(0), v(0), v(0), v(0)), marked, mk(api.Tr, marked, marked, plain, marked)},
		{mk(api.Tr, s(0), s(0), mk(api.PLam, s(0), v(1)), v(1)), marked, mk(api.Tr, s(0), s(0), mk(api.PLam, s(0), mk(api.PRefl, v(1), s(2))), v(0))},
	} {
		if got := Put(c.t, c.u); !term.Same(got, c.want) {
			t.Error(i, got)
		}
	}
}

func TestPutRefuses(t *testing.T) {
	plain := mk(api.PRefl, v(0), s(2))
	for i, c := range [][2]api.Term{
		{zero, s(0)}, {v(0), zero}, {s(0), zero}, {mk(api.PApp, v(0)), s(0)}, {v(0), v(-1)}, {mk(api.Refl, s(0), s(0)), plain},
		{mk(api.Tr, s(0), s(0), v(0), s(0)), plain}, {mk(api.PLam, s(0), v(1)), v(top)}, {mk(api.PLam, s(0), v(1)), mk(api.PFst, v(top))},
	} {
		if got := Put(c[0], c[1]); !term.Same(got, zero) {
			t.Error(i, got)
		}
	}
	if got := Put(mk(api.PLam, s(0), v(1)), v(top-1)); !term.Same(got, mk(api.PLam, s(0), v(top))) {
		t.Error("edge", got)
	}
	if got := Put(mk(api.PLam, s(0), v(0)), v(top)); !term.Same(got, mk(api.PLam, s(0), v(0))) {
		t.Error("not used", got)
	}
	if got := Put(v(top), s(0)); !term.Same(got, v(top-1)) {
		t.Error("top", got)
	}
}

func TestAll(t *testing.T) {
	m, p := two()
	for _, x := range []api.Term{m, p} {
		l := []api.Term{mk(api.Refl, v(1), s(2))}
		for i := 0; i < 9; i++ {
			l = append(l, v(i))
		}
		got, ok := All(x, l)
		if !ok || !term.Same(got, Put(x, l[0])) {
			t.Error(got, ok)
		}
	}
	got, ok := All(mk(api.PPair, v(0), v(2), v(1), mk(api.PFst, v(0))), []api.Term{mk(api.Fst, s(0), v(0), v(7)), v(4)})
	if want := mk(api.PPair, mk(api.PFst, v(7)), v(5), v(4), mk(api.PFst, mk(api.PFst, v(7)))); !ok || !term.Same(got, want) {
		t.Error(got, ok)
	}
	if got, ok = All(s(4), nil); !ok || !term.Same(got, s(4)) {
		t.Error(got, ok)
	}
	if got, ok = All(v(1), []api.Term{v(0), mk(api.Refl, s(0), v(3))}); !ok || !term.Same(got, mk(api.Refl, s(0), v(3))) {
		t.Error(got, ok)
	}
}

func TestAllRefuses(t *testing.T) {
	plain := mk(api.PRefl, v(0), s(2))
	for i, c := range []struct {
		t api.Term
		l []api.Term
	}{
		{zero, nil}, {v(0), nil}, {v(1), []api.Term{s(0)}}, {s(0), []api.Term{zero}}, {v(0), []api.Term{s(0), v(-1)}}, {mk(api.Refl, s(0), s(0)), []api.Term{plain}},
		{mk(api.PLam, s(0), v(1)), []api.Term{v(top)}}, {mk(api.PLam, s(0), v(2)), []api.Term{s(0)}}, {mk(api.PApp, v(0)), []api.Term{s(0)}},
	} {
		if got, ok := All(c.t, c.l); ok || !term.Same(got, zero) {
			t.Error(i, got, ok)
		}
	}
}

func TestPutUndoesLift(t *testing.T) {
	m, p := two()
	for _, u := range []api.Term{s(3), v(4), mk(api.Refl, v(0), v(1))} {
		for i, x := range []api.Term{m, p} {
			if got := Put(lift.Lift(x, 1, 0), u); !term.Same(got, x) {
				t.Error(i, got)
			}
			if got := strip.Strip(Put(x, u)); !term.Same(got, Put(strip.Strip(x), strip.Strip(u))) {
				t.Error("strip", i, got)
			}
		}
	}
}

func TestResultIsNew(t *testing.T) {
	u, x := mk(api.PFst, v(0)), mk(api.PApp, v(0), v(0))
	y := Put(x, u)
	y.Kids[0].Kids[0] = s(9)
	if u.Kids[0].Kind != api.Var || y.Kids[1].Kids[0].Kind != api.Var {
		t.Error("shared")
	}
}
