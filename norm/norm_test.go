package norm

import (
	"math"
	"testing"

	"tranship/api"
	"tranship/naive"
	"tranship/read"
	"tranship/term"
)

func p(t *testing.T, text string) api.Term {
	x, e, at := read.Read(text, []string{"a", "b", "c"}, 0, 0)
	if e != api.OK {
		t.Fatal(text, e, at)
	}
	return x
}

var inf = math.Inf(1)

func TestSteps(t *testing.T) {
	for _, c := range []struct {
		text, head, norm string
		steps            float64
	}{
		{"(App (Lam x (sort 1) x) (sort 0))", "(sort 0)", "(sort 0)", 1},
		{"(Fst (Pair x a b c (sort 0)))", "c", "c", 1},
		{"(Snd (Pair x a b c (sort 0)))", "(sort 0)", "(sort 0)", 1},
		{"(J a b y e y c b (Refl b b))", "c", "c", 1},
		{"(J a b y e y c b a)", "(J a b y e y c b a)", "(J a b y e y c b a)", 0},
		{"(App (App (Lam x a (Lam y a (App x y))) b) c)", "(App b c)", "(App b c)", 2},
		{"(App b (App (Lam x a x) c))", "(App b (App (Lam x a x) c))", "(App b c)", 1},
		{"(Lam x (App (Lam x a x) c) (App (Lam y a y) x))", "(Lam x (App (Lam x a x) c) (App (Lam y a y) x))", "(Lam x c x)", 2},
		{"(Pair x (App (Lam x a x) c) (App (Lam y a y) x) (Fst a) (Snd b))", "(Pair x (App (Lam x a x) c) (App (Lam y a y) x) (Fst a) (Snd b))", "(Pair x c x (Fst a) (Snd b))", 2},
		{"(App (Fst (Pair x a b (Lam x a x) c)) b)", "b", "b", 2},
		{"(J a b y e y c b (App (Lam x a (Refl x x)) a))", "c", "c", 2},
		{"(use tr 0 0 a b (Refl c c) (sort 3))", "(sort 3)", "(sort 3)", 2},
		{"(use tr 0 0 a b c (sort 3))", "(J (sort 0) a y e y (sort 3) b c)", "(J (sort 0) a y e y (sort 3) b c)", 1},
		{"(use uip 0 0 a a a a (Fst (Pair x a b c b)))", "(use uip 0 0 a a a a (Fst (Pair x a b c b)))", "(use uip 0 0 a a a a c)", 1},
		{"(use het 1000 0 a a a a)", "(use het 1000 0 a a a a)", "(use het 1000 0 a a a a)", 0},
		{"(use het 999 0 a a b b)", "(Eq (Sig x (sort 999) x) (Pair x (sort 999) x a b) (Pair x (sort 999) x a b))", "(Eq (Sig x (sort 999) x) (Pair x (sort 999) x a b) (Pair x (sort 999) x a b))", 1},
		{"(use het 0 1000 a a (App (Lam x a x) c) a)", "(use het 0 1000 a a (App (Lam x a x) c) a)", "(use het 0 1000 a a c a)", 1},
		{"(App (Lam x a b) (App (Lam x a (App x x)) (Lam x a (App x x))))", "b", "b", 1},
		{"(App (Pair x a b c c) a)", "(App (Pair x a b c c) a)", "(App (Pair x a b c c) a)", 0},
		{"(Pi x (Snd (Pair x a b c b)) (Fst (Pair x a b x b)))", "(Pi x (Snd (Pair x a b c b)) (Fst (Pair x a b x b)))", "(Pi x b x)", 2},
		{"(App (Lam x a (Lam y a x)) (Fst a))", "(Lam y a (Fst a))", "(Lam y a (Fst a))", 1},
	} {
		for _, fuel := range []float64{c.steps, c.steps + 0.5, 1e300, inf} {
			if x, e := Norm(p(t, c.text), fuel); e != api.OK || !term.Same(x, p(t, c.norm)) {
				t.Error("Norm", c.text, fuel, x, e)
			}
			if x, e := Head(p(t, c.text), fuel); e != api.OK || !term.Same(x, p(t, c.head)) {
				t.Error("Head", c.text, fuel, x, e)
			}
		}
		for _, fuel := range []float64{0, -1, -inf, math.NaN(), math.Copysign(0, -1), 0.9} {
			x, e := Norm(p(t, c.text), fuel)
			if c.steps > 0 && (e != api.ErrFuel || x.Kind != 0) || e == api.OK && !term.Same(x, p(t, c.norm)) {
				t.Error("no fuel", c.text, fuel, x, e)
			}
			if x, e := Head(p(t, c.text), fuel); e == api.OK && !term.Same(x, p(t, c.head)) || e != api.OK && e != api.ErrFuel {
				t.Error("no fuel for Head", c.text, fuel, x, e)
			}
		}
	}
}

func TestArguments(t *testing.T) {
	sort := api.Term{Kind: api.Sort}
	for i, x := range []api.Term{{}, {Kind: api.PApp}, {Kind: api.Refl, Kids: []api.Term{sort, sort}}, {Kind: api.Sort, I: 1001}, {Kind: api.PFst, Kids: []api.Term{{Kind: api.Refl, Kids: []api.Term{sort, sort}}}}} {
		for _, fuel := range []float64{0, inf, math.NaN()} {
			if y, e := Norm(x, fuel); e != api.ErrArg || y.Kind != 0 {
				t.Error(i, y, e)
			}
			if y, e := Head(x, fuel); e != api.ErrArg || y.Kind != 0 {
				t.Error(i, y, e)
			}
		}
	}
}

func TestEndless(t *testing.T) {
	for _, text := range []string{
		"(App (Lam x a (App x x)) (Lam x a (App x x)))",
		"(App (Lam x a (App x (App x x))) (Lam x a (App x (App x x))))",
		"(App (Lam x a (App (App x x) x)) (Lam x a (App (App x x) x)))",
		"(App (Lam x a (Pair y a a b (App x x))) (Lam x a (Pair y a a b (App x x))))",
		"(App (App (Lam x a (Lam n a (App (App x x) (App b n)))) (Lam x a (Lam n a (App (App x x) (App b n))))) c)",
		"(App (App (Lam x a (Lam n a (Pair y a a n (App (App x x) (App b n))))) (Lam x a (Lam n a (Pair y a a n (App (App x x) (App b n)))))) c)",
	} {
		for _, fuel := range []float64{0, 1, 100, 1e4} {
			if x, e := Norm(p(t, text), fuel); e != api.ErrFuel || x.Kind != 0 {
				t.Error(text, fuel, e)
			}
		}
	}
	if _, e := Norm(p(t, "(App (Lam x a (App x x)) (Lam x a (App x x)))"), inf); e != api.ErrFuel {
		t.Error(e)
	}
	x, e := Head(p(t, "(App (Lam x a (Pair y a a b (App x x))) (Lam x a (Pair y a a b (App x x))))"), 1)
	if e != api.OK || x.Kind != api.PPair {
		t.Error(x, e)
	}
}

func TestAgainstTrees(t *testing.T) {
	r := naive.Random{Seed: 18}
	reduced := 0
	for range 4000 {
		x := r.Plain(6, 3)
		s := naive.Steps{Left: 300}
		want, ok := s.Norm(x)
		n := float64(300 - s.Left)
		if ok {
			if n > 3 {
				reduced++
			}
			if got, e := Norm(x, n); e != api.OK || !term.Same(got, want) {
				t.Fatal("Norm", n, e, x)
			}
			if got, e := Norm(want, 0); e != api.OK || !term.Same(got, want) {
				t.Fatal("normal", e, x)
			}
			for f := 0.0; f < n; f += 1 + n/4 {
				if got, e := Norm(x, f); e == api.OK && !term.Same(got, want) {
					t.Fatal("less", f, x)
				}
			}
		}
		s = naive.Steps{Left: 300}
		if want, ok = s.Head(x); ok {
			if got, e := Head(x, float64(300-s.Left)); e != api.OK || !term.Same(got, want) {
				t.Fatal("Head", e, x)
			}
		}
	}
	if reduced < 100 {
		t.Error("too few", reduced)
	}
}

func TestResultIsNew(t *testing.T) {
	x := p(t, "(Lam x (Fst a) (App (Fst a) (Fst a)))")
	y, _ := Norm(x, 0)
	y.Kids[1].Kids[0].Kids[0] = api.Term{Kind: api.Sort}
	if x.Kids[1].Kids[0].Kids[0].Kind != api.Var || y.Kids[1].Kids[1].Kids[0].Kind != api.Var {
		t.Error("shared")
	}
}

func TestDeep(t *testing.T) {
	x := api.Term{Kind: api.Var}
	id := p(t, "(Lam x (sort 0) x)")
	for range 1 << 15 {
		x = api.Term{Kind: api.PApp, Kids: []api.Term{id, x}}
	}
	if y, e := Norm(x, 1<<15); e != api.OK || y.Kind != api.Var {
		t.Error(e)
	}
	for range 1 << 15 {
		x = api.Term{Kind: api.PFst, Kids: []api.Term{x}}
	}
	if y, e := Head(x, 1<<15); e != api.OK || term.Deep(y) != 1<<15+1 && y.Kind != api.PFst {
		t.Error(e)
	}
}
