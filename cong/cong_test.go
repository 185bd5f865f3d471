package cong

import (
	"strings"
	"testing"

	"tranship/api"
	"tranship/het"
	"tranship/kernel"
	"tranship/read"
	"tranship/term"
)

// The context has all that is needed for an equality of each sort: two types, two families, two functions and so on.
var entries = []string{
	"A (sort 1)", "C (sort 1)", "e (Eq (sort 1) A C)", "B (Pi x A (sort 2))", "D (Pi x C (sort 2))",
	"f (Pi x A (Pi y C (Pi h (use het 1 0 A C x y) (Eq (sort 2) (App B x) (App D y)))))",
	"t (Pi x A (App B x))", "s (Pi x C (App D x))", "k (Pi x A (Pi y C (Pi h (use het 1 0 A C x y) (use het 2 0 (App B x) (App D y) (App t x) (App s y)))))",
	"u A", "v C", "r (use het 1 0 A C u v)", "g (use het 2 0 (Pi x A (App B x)) (Pi x C (App D x)) t s)",
	"p (Sig x A (App B x))", "q (Sig x C (App D x))", "w (use het 2 0 (Sig x A (App B x)) (Sig x C (App D x)) p q)",
	"m (App B u)", "n (App D v)", "o (use het 2 0 (App B u) (App D v) m n)",
	"u2 A", "v2 C", "r2 (use het 1 0 A C u2 v2)",
}

func sample(t *testing.T) (c []api.Term, p func(text string) api.Term) {
	var names []string
	p = func(text string) api.Term {
		x, e, at := read.Read(text, append(names, "X"), 0, 0)
		if e != api.OK {
			t.Fatal(text, e, at)
		}
		return x
	}
	for _, text := range entries {
		name, a, _ := strings.Cut(text, " ")
		x, e, at := read.Read(a, names, 0, 0)
		if e != api.OK {
			t.Fatal(text, at)
		}
		c, names = append(c, x), append(names, name)
	}
	if e := kernel.Ctx(c, 100); e != api.OK {
		t.Fatal(e)
	}
	p = func(text string) api.Term {
		x, e, at := read.Read(text, names, 0, 0)
		if e != api.OK {
			t.Fatal(text, e, at)
		}
		return x
	}
	return
}

// under reads a term under one binder, X.
func under(p func(string) api.Term, text string) api.Term {
	return p("(Lam X (sort 0) " + text + ")").Kids[1]
}

func fam(p func(string) api.Term) Fam {
	return Fam{1, 2, p("A"), p("C"), under(p, "(App B X)"), under(p, "(App D X)"), p("e"), p("f")}
}

func sameHets(g, h het.Het) bool {
	return g.I == h.I && term.Same(g.A, h.A) && term.Same(g.B, h.B) && term.Same(g.X, h.X) && term.Same(g.Y, h.Y) && term.Same(g.H, h.H)
}

const six = " 1 2 A C e (Lam X A (App B X)) (Lam X C (App D X)) f"

func TestCongruence(t *testing.T) {
	c, p := sample(t)
	f := fam(p)
	of := func(x, y, h string) het.Het { return het.Het{I: 77, X: p(x), Y: p(y), H: p(h)} }
	funcs, args, pairs, firsts := of("t", "s", "g"), of("u", "v", "r"), of("p", "q", "w"), of("m", "n", "o")
	for what, r := range map[string]struct {
		got        het.Het
		i          int
		a, b, x, y string
		h          string
	}{
		"lam":  {Lam(f, under(p, "(App t X)"), under(p, "(App s X)"), p("k")), 2, "(Pi x A (App B x))", "(Pi x C (App D x))", "(Lam x A (App t x))", "(Lam x C (App s x))", "(use clam" + six + " (Lam x A (App t x)) (Lam x C (App s x)) k)"},
		"app":  {App(f, funcs, args), 2, "(App B u)", "(App D v)", "(App t u)", "(App s v)", "(use capp" + six + " t s g u v r)"},
		"pair": {Pair(f, args, firsts), 2, "(Sig x A (App B x))", "(Sig x C (App D x))", "(Pair x A (App B x) u m)", "(Pair x C (App D x) v n)", "(use cpair" + six + " u v r m n o)"},
		"fst":  {Fst(f, pairs), 1, "A", "C", "(Fst p)", "(Fst q)", "(use cfst" + six + " p q w)"},
		"snd":  {Snd(f, pairs), 2, "(App B (Fst p))", "(App D (Fst q))", "(Snd p)", "(Snd q)", "(use csnd" + six + " p q w)"},
		"refl": {Refl(1, f.A, f.C, f.E, args), 1, "(Eq A u u)", "(Eq C v v)", "(Refl A u)", "(Refl C v)", "(use crefl 1 0 A C e u v r)"},
	} {
		want := het.Het{I: r.i, A: p(r.a), B: p(r.b), X: p(r.x), Y: p(r.y), H: p(r.h)}
		if !sameHets(r.got, want) {
			t.Error(what, r.got)
		}
		if e := kernel.Check(c, r.got.H, het.Type(r.got), 1e5); e != api.OK {
			t.Error("kernel", what, e)
		}
	}
	for what, r := range map[string]struct {
		got     api.Term
		want, a string
	}{
		"pi":  {Pi(f), "(use cpi" + six + ")", "(Eq (sort 2) (Pi x A (App B x)) (Pi x C (App D x)))"},
		"sig": {Sig(f), "(use csig" + six + ")", "(Eq (sort 2) (Sig x A (App B x)) (Sig x C (App D x)))"},
		"eq":  {Eq(1, f.A, f.C, f.E, args, of("u2", "v2", "r2")), "(use ceq 1 0 A C e u v r u2 v2 r2)", "(Eq (sort 1) (Eq A u u2) (Eq C v v2))"},
	} {
		if !term.Same(r.got, p(r.want)) {
			t.Error(what, r.got)
		}
		if e := kernel.Check(c, r.got, p(r.a), 1e5); e != api.OK {
			t.Error("kernel", what, e)
		}
	}
}

// TestLevels has a family whose first level is the greater one.
func TestLevels(t *testing.T) {
	_, p := sample(t)
	f := fam(p)
	f.I, f.J = 3, 2
	h := het.Het{X: p("u"), Y: p("v"), H: p("r")}
	if l := []int{Lam(f, f.B, f.D, f.F).I, App(f, h, h).I, Pair(f, h, h).I, Fst(f, h).I, Snd(f, h).I, Pi(f).I, Pi(f).J}; l[0] != 3 || l[1] != 2 || l[2] != 3 || l[3] != 3 || l[4] != 2 || l[5] != 3 || l[6] != 2 {
		t.Error(l)
	}
}

func TestRefused(t *testing.T) {
	_, p := sample(t)
	f, h, x := fam(p), het.Het{X: p("u"), Y: p("v"), H: p("r")}, p("u")
	marked := api.Term{Kind: api.Refl, Kids: []api.Term{x, x}}
	for i, bad := range []api.Term{{}, marked, {Kind: api.PApp}, {Kind: api.Sort, I: 1001}} {
		fams := []Fam{f, f, f, f, f, f, f, f, f, f}
		fams[0].A, fams[1].B, fams[2].C, fams[3].D, fams[4].E, fams[5].F, fams[6].I, fams[7].J, fams[8].I, fams[9].J = bad, bad, bad, bad, bad, bad, -1, -1, 998, 998
		for k, g := range fams {
			if Pi(g).Kind != 0 || Sig(g).Kind != 0 || !sameHets(Lam(g, x, x, x), het.Het{}) || !sameHets(App(g, h, h), het.Het{}) || !sameHets(Pair(g, h, h), het.Het{}) || !sameHets(Fst(g, h), het.Het{}) || !sameHets(Snd(g, h), het.Het{}) {
				t.Error("family", i, k)
			}
		}
		for k, terms := range [][3]api.Term{{bad, x, x}, {x, bad, x}, {x, x, bad}} {
			g := het.Het{X: terms[0], Y: terms[1], H: terms[2]}
			if !sameHets(Lam(f, terms[0], terms[1], terms[2]), het.Het{}) || Eq(0, terms[0], terms[1], terms[2], h, h).Kind != 0 || !sameHets(Refl(0, terms[0], terms[1], terms[2], h), het.Het{}) {
				t.Error("terms", i, k)
			}
			if !sameHets(App(f, g, h), het.Het{}) || !sameHets(App(f, h, g), het.Het{}) || !sameHets(Pair(f, g, h), het.Het{}) || !sameHets(Pair(f, h, g), het.Het{}) || !sameHets(Fst(f, g), het.Het{}) || !sameHets(Snd(f, g), het.Het{}) ||
				Eq(0, x, x, x, g, h).Kind != 0 || Eq(0, x, x, x, h, g).Kind != 0 || !sameHets(Refl(0, x, x, x, g), het.Het{}) {
				t.Error("Hets", i, k)
			}
		}
	}
	for i, want := range map[int]bool{-1: false, 0: true, 997: true, 998: false} {
		g := f
		g.I, g.J = i, i
		if (Eq(i, x, x, x, h, h).Kind != 0) != want || (Refl(i, x, x, x, h).H.Kind != 0) != want || (Pi(g).Kind != 0) != want || (Fst(g, h).H.Kind != 0) != want {
			t.Error("level", i)
		}
	}
}

func TestResultsAreNew(t *testing.T) {
	_, p := sample(t)
	f := fam(p)
	h := Lam(f, f.B, f.D, f.F)
	for _, x := range []api.Term{h.A, h.B, h.X, h.Y} {
		x.Kids[1].Kids[0] = api.Term{Kind: api.Sort, I: 7}
	}
	if f.B.Kids[0].Kind != api.Var || f.D.Kids[0].Kind != api.Var || h.H.Kids[6].Kids[1].Kids[0].Kind != api.Var {
		t.Error("shared")
	}
}
