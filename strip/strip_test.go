package strip

import (
	"testing"

	"tranship/api"
	"tranship/lift"
	"tranship/term"
)

func mk(kind int, kids ...api.Term) api.Term { return api.Term{Kind: kind, Kids: kids} }
func mi(kind, i, j int, kids ...api.Term) api.Term {
	return api.Term{Kind: kind, I: i, J: j, Kids: kids}
}
func s(i int) api.Term { return api.Term{Kind: api.Sort, I: i} }
func v(i int) api.Term { return api.Term{Kind: api.Var, I: i} }

func pairs() [][2]api.Term {
	a, ma := mk(api.PFst, v(7)), mi(api.Fst, 1, 2, s(0), s(1), v(7))
	tr := api.Term{Kind: api.PUse, N: 5, I: 6, Kids: []api.Term{a, v(2), mk(api.PRefl, s(0), v(3)), a}}
	return [][2]api.Term{
		{s(3), s(3)}, {v(9), v(9)}, {ma, a},
		{mi(api.Pi, 1, 2, ma, v(1)), mk(api.PPi, a, v(1))},
		{mi(api.Lam, 1, 2, ma, v(1), v(2)), mk(api.PLam, a, v(2))},
		{mi(api.App, 1, 2, v(5), v(1), ma, v(2)), mk(api.PApp, a, v(2))},
		{mi(api.Sig, 1, 2, ma, v(1)), mk(api.PSig, a, v(1))},
		{mi(api.Pair, 1, 2, v(4), v(1), ma, v(2)), mk(api.PPair, v(4), v(1), a, v(2))},
		{mi(api.Snd, 1, 2, v(4), v(1), ma), mk(api.PSnd, a)},
		{mi(api.Eq, 1, 0, v(4), v(1), ma), mk(api.PEq, v(4), v(1), a)},
		{mi(api.Refl, 1, 0, v(4), ma), mk(api.PRefl, v(4), a)},
		{mi(api.Tr, 6, 0, ma, v(2), mk(api.PRefl, s(0), v(3)), ma), tr},
		{mi(api.Tr, 6, 0, ma, v(2), mk(api.PRefl, s(0), v(3)), mi(api.Tr, 6, 0, ma, v(2), mk(api.PRefl, s(0), v(3)), ma)), api.Term{Kind: api.PUse, N: 5, I: 6, Kids: []api.Term{a, v(2), mk(api.PRefl, s(0), v(3)), tr}}},
		{mk(api.PApp, v(1), v(2)), mk(api.PApp, v(1), v(2))},
		{mk(api.PJ, s(0), v(1), v(2), v(3), v(4), a), mk(api.PJ, s(0), v(1), v(2), v(3), v(4), a)},
	}
}

func TestStrip(t *testing.T) {
	for i, p := range pairs() {
		if got := Strip(p[0]); !term.Same(got, p[1]) {
			t.Error(i, got)
		}
		if got := Strip(p[1]); !term.Same(got, p[1]) {
			t.Error("plain", i, got)
		}
		if !term.Plain(p[1]) || term.Free(p[1]) > term.Free(p[0]) {
			t.Error("result", i)
		}
		if !term.Same(Strip(lift.Lift(p[0], 3, 1)), lift.Lift(p[1], 3, 1)) {
			t.Error("lifted", i)
		}
	}
}

func TestStripRefuses(t *testing.T) {
	for i, x := range []api.Term{{}, mk(api.PApp, v(0)), mi(api.Pi, 0, 1001, s(0), s(0)), mi(api.Pi, 0, 0, mk(api.PFst, v(0)), s(0)), mk(api.PFst, mi(api.Fst, 0, 0, s(0), s(0), v(0))), v(-1), mi(api.Tr, 0, 0, s(0), s(0), mi(api.Refl, 0, 0, s(0), s(0)), s(0))} {
		if got := Strip(x); !term.Same(got, api.Term{}) {
			t.Error(i, got)
		}
	}
}

func TestResultIsNew(t *testing.T) {
	x := mk(api.PFst, mk(api.PFst, v(0)))
	y := Strip(x)
	x.Kids[0].Kids[0] = s(4)
	if y.Kids[0].Kids[0].Kind != api.Var {
		t.Error("shared")
	}
}
