package write

import (
	"slices"
	"testing"

	"tranship/api"
	"tranship/lex"
	"tranship/read"
	"tranship/term"
)

func mk(kind int, kids ...api.Term) api.Term { return api.Term{Kind: kind, Kids: kids} }
func mi(kind, i, j int, kids ...api.Term) api.Term {
	return api.Term{Kind: kind, I: i, J: j, Kids: kids}
}
func s(i int) api.Term { return api.Term{Kind: api.Sort, I: i} }
func v(i int) api.Term { return api.Term{Kind: api.Var, I: i} }

func samples() map[string]api.Term {
	return map[string]api.Term{
		"(sort 1000)": s(1000), "v0": v(2), "v2": v(0),
		"(pi 1 2 v3 v0 v3)":                          mi(api.Pi, 1, 2, v(2), v(0)),
		"(lam 1 2 v3 v2 v3 v0)":                      mi(api.Lam, 1, 2, v(0), v(0), v(3)),
		"(app 1 2 v3 v0 v3 v1 v2)":                   mi(api.App, 1, 2, v(2), v(0), v(1), v(0)),
		"(sig 1 0 v3 v0 v3)":                         mi(api.Sig, 1, 0, v(2), v(0)),
		"(pair 1 2 v3 v0 v3 v1 v2)":                  mi(api.Pair, 1, 2, v(2), v(0), v(1), v(0)),
		"(fst 1 2 v3 v0 v3 v2)":                      mi(api.Fst, 1, 2, v(2), v(0), v(0)),
		"(snd 1 2 v3 v0 v0 v2)":                      mi(api.Snd, 1, 2, v(2), v(3), v(0)),
		"(eq 1 v0 v1 v2)":                            mi(api.Eq, 1, 0, v(2), v(1), v(0)),
		"(refl 12 v0 (sort 0))":                      mi(api.Refl, 12, 0, v(2), s(0)),
		"(tr 3 v0 v1 (Fst v2) v2)":                   mi(api.Tr, 3, 0, v(2), v(1), mk(api.PFst, v(0)), v(0)),
		"(Pi v3 v0 v3)":                              mk(api.PPi, v(2), v(0)),
		"(Lam v3 v0 (Lam v4 v3 v4))":                 mk(api.PLam, v(2), mk(api.PLam, v(0), v(0))),
		"(App v0 v1)":                                mk(api.PApp, v(2), v(1)),
		"(Sig v3 v0 v3)":                             mk(api.PSig, v(2), v(0)),
		"(Pair v3 v0 v3 v1 v2)":                      mk(api.PPair, v(2), v(0), v(1), v(0)),
		"(Fst v0)":                                   mk(api.PFst, v(2)),
		"(Snd v0)":                                   mk(api.PSnd, v(2)),
		"(Eq v0 v1 v2)":                              mk(api.PEq, v(2), v(1), v(0)),
		"(Refl v0 v1)":                               mk(api.PRefl, v(2), v(1)),
		"(J v0 v1 v3 v4 (App v3 v4) v2 v1 v0)":       mk(api.PJ, v(2), v(1), mk(api.PApp, v(1), v(0)), v(0), v(1), v(2)),
		"(use tr 1 2 v0 v1 v2 (Lam v3 (sort 0) v3))": {Kind: api.PUse, N: 5, I: 1, J: 2, Kids: []api.Term{v(2), v(1), v(0), mk(api.PLam, s(0), v(0))}},
	}
}

func TestWrite(t *testing.T) {
	for want, x := range samples() {
		if got := Write(x, 3); got != want {
			t.Errorf("%q, not %q", got, want)
		}
		for _, n := range []int{3, 4, 40} {
			if back, e, at := read.Read(Write(x, n), Names(n), 0, 0); e != api.OK || !term.Same(back, x) {
				t.Error(want, n, e, at)
			}
		}
		if Write(x, term.Free(x)) == "" || term.Free(x) > 0 && Write(x, term.Free(x)-1) != "" {
			t.Error("free", want)
		}
	}
	if got := Write(mk(api.PLam, s(4), mk(api.PApp, v(0), v(1))), 1); got != "(Lam v1 (sort 4) (App v1 v0))" {
		t.Error(got)
	}
	if got := Write(v(3), api.MaxNum); got != "v999996" {
		t.Error(got)
	}
	if got := Write(mk(api.PLam, s(0), v(0)), api.MaxNum); got != "(Lam v1000000 (sort 0) v1000000)" {
		t.Error(got)
	}
}

func TestWriteRefuses(t *testing.T) {
	for i, got := range []string{Write(v(0), 0), Write(s(0), -1), Write(s(0), api.MaxNum+1), Write(api.Term{}, 3), Write(mk(api.PApp, v(0)), 3), Write(s(1001), 3), Write(mk(api.PLam, s(0), v(2)), 1)} {
		if got != "" {
			t.Error(i, got)
		}
	}
}

func TestNames(t *testing.T) {
	if got := Names(3); !slices.Equal(got, []string{"v0", "v1", "v2"}) {
		t.Error(got)
	}
	if len(Names(0)) != 0 || len(Names(-1)) != 0 || len(Names(api.MaxNum+1)) != 0 {
		t.Error("none")
	}
	l := Names(api.MaxNum)
	if len(l) != api.MaxNum || l[999999] != "v999999" || !lex.Name(l[999999]) {
		t.Error("all", len(l))
	}
}
