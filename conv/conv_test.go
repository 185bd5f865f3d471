package conv

import (
	"math"
	"testing"

	"tranship/api"
	"tranship/naive"
	"tranship/norm"
	"tranship/read"
	"tranship/term"
)

var inf, nan = math.Inf(1), math.NaN()

const omega = "(App (Lam x a (App x x)) (Lam x a (App x x)))"

// Terms without a normal form, which become greater with each round of steps.
const (
	growing = "(App (App (Lam x a (Lam y a (App (App x x) (Fst y)))) (Lam x a (Lam y a (App (App x x) (Fst y))))) b)"
	opening = "(App (Lam x a (Pair y a a b (App x x))) (Lam x a (Pair y a a b (App x x))))"
	longer  = "(App (App (Lam x a (Lam n a (Pair y a a n (App (App x x) (App b n))))) (Lam x a (Lam n a (Pair y a a n (App (App x x) (App b n)))))) c)"
)

func p(t *testing.T, text string) api.Term {
	x, e, at := read.Read(text, []string{"a", "b", "c"}, 0, 0)
	if e != api.OK {
		t.Fatal(text, e, at)
	}
	return x
}

func TestSame(t *testing.T) {
	for _, c := range []struct {
		a, b  string
		want  bool
		steps float64
	}{
		{"a", "a", true, 0}, {"a", "b", false, 0}, {"(sort 0)", "(sort 1)", false, 0},
		{"(Lam x (sort 0) (App b x))", "b", true, 0},
		{"(Lam x (sort 0) (App x b))", "b", false, 0},
		{"(Lam x (sort 0) (App x x))", "b", false, 0},
		{"(Lam x a x)", "(Lam x b x)", true, 0},
		{"(Lam x a x)", "(Lam x a a)", false, 0},
		{"(Lam x a (Lam y a (App (App b x) y)))", "b", true, 0},
		{"(Lam x a (Lam y a (App (App b y) x)))", "b", false, 0},
		{"(Pair x a b c a)", "(Pair x b a c a)", true, 0},
		{"(Pair x a b c a)", "(Pair x a b c b)", false, 0},
		{"(Pair x a b c a)", "(Pair x a b a a)", false, 0},
		{"(Pair x a b (Fst c) (Snd c))", "c", true, 0},
		{"(Pair x a b (Snd c) (Fst c))", "c", false, 0},
		{"(Pair x a b (Fst c) (Fst c))", "c", false, 0},
		{"(Pair x a b (Fst c) (Snd b))", "c", false, 0},
		{"(Pair x a b (Lam y a (App (Fst c) y)) (Pair y a a (Fst (Snd c)) (Snd (Snd c))))", "c", true, 0},
		{"(Pair x a b a b)", "(Lam x a x)", false, 0},
		{"(Lam x a (App (Pair y a b a b) x))", "(Pair y a b a b)", true, 0},
		{"(Pi x a b)", "(Pi x a b)", true, 0}, {"(Pi x a b)", "(Sig x a b)", false, 0}, {"(Pi x a b)", "(Pi x a x)", false, 0},
		{"(Pi x a (Lam y a (App b y)))", "(Pi x a b)", true, 0},
		{"(Eq a b c)", "(Eq a b b)", false, 0}, {"(Refl a b)", "(Refl b b)", false, 0}, {"(Refl a b)", "(Refl a (Lam y c (App b y)))", true, 0},
		{"(use uip 0 0 a a a a a)", "(use uip 1 0 a a a a a)", false, 0}, {"(use uip 0 0 a a a a a)", "(use uip 0 1 a a a a a)", false, 0},
		{"(use uip 0 0 a a a a a)", "(use uip 0 0 a a a a (Lam x b (App a x)))", true, 0}, {"(use uip 0 0 a a a a a)", "(use funext 0 0 a a a a a)", false, 0},
		{"(App (Lam x a x) b)", "b", true, 1}, {"(App (Lam x a x) b)", "c", false, 1},
		{"(use het 0 0 a b c a)", "(use het 0 1 a b c a)", true, 2},
		{"(use het 0 0 a b c a)", "(use het 1 0 a b c a)", false, 2},
		{"(use het 0 0 a b c a)", "(Eq (Sig x (sort 0) x) (Pair x a a a c) (Pair x c c b a))", true, 1},
		{"(use tr 0 0 a b (Refl c c) (sort 3))", "(use tr 0 0 b b (Refl c c) (sort 3))", true, 4},
		{"(use tr 0 0 a b c (sort 3))", "(use tr 0 0 a b b (sort 3))", false, 2},
		{"(J a b y e y c b (Refl b b))", "(Fst (Pair x a a c c))", true, 2},
		{"(J a b y e (App (Lam z a z) y) c b a)", "(J a b y e y c b a)", true, 1},
		{"(App (Lam x a b) " + omega + ")", "b", true, 1},
		{"(use tr 0 0 " + omega + " b (Refl c c) (sort 3))", "(use tr 0 0 b " + omega + " (Refl c c) (sort 3))", true, 4},
	} {
		for _, fuel := range []float64{c.steps, c.steps + 0.9, 1e9, inf} {
			if got, e := Same(p(t, c.a), p(t, c.b), fuel); got != c.want || e != api.OK {
				t.Error(c, fuel, got, e)
			}
			if got, e := Same(p(t, c.b), p(t, c.a), fuel); got != c.want || e != api.OK {
				t.Error("turned", c, fuel, got, e)
			}
		}
		for _, fuel := range []float64{0, nan, -1, -inf} {
			if got, e := Same(p(t, c.a), p(t, c.b), fuel); e == api.OK && got != c.want || e != api.OK && (e != api.ErrFuel || got) {
				t.Error("less", c, fuel, got, e)
			}
		}
	}
}

func TestNoFuel(t *testing.T) {
	for _, c := range [][2]string{{"(App (Lam x a x) b)", "b"}, {"b", "(Fst (Pair x a b b b))"}, {"(use het 0 0 a b c a)", "(sort 0)"}} {
		if got, e := Same(p(t, c[0]), p(t, c[1]), 0); e != api.ErrFuel || got {
			t.Error(c, got, e)
		}
	}
}

func TestWithoutNormalForm(t *testing.T) {
	for _, c := range [][2]string{
		{omega, "(sort 0)"}, {omega, "b"}, {"(Lam x a " + omega + ")", "(Lam x a x)"}, {"(Lam x " + omega + " x)", "(Lam x a x)"}, {"(Pair x " + omega + " a b c)", "(Pair x a a b c)"},
		{"(Pi x (sort 0) " + omega + ")", "(Pi x (sort 1) b)"}, {"(App b " + omega + ")", "(App c " + omega + ")"},
		{"(App (Lam x a (Pair y a a b (App x x))) (Lam x a (Pair y a a b (App x x))))", "(Fst b)"},
		{"(App (Lam x a (Pair y a a b (App x x))) (Lam x a (Pair y a a b (App x x))))", "(App (Lam x b (Pair y a a b (App x x))) (Lam x a (Pair y a a b (App x x))))"},
		{"(App (Lam x a (App (App x x) x)) (Lam x a (App (App x x) x)))", "(sort 0)"},
	} {
		for _, fuel := range []float64{0, 5, 1000} {
			for _, d := range [][2]string{c, {c[1], c[0]}} {
				if got, e := Same(p(t, d[0]), p(t, d[1]), fuel); e != api.ErrFuel || got {
					t.Error(d, fuel, got, e)
				}
			}
		}
	}
	for _, text := range []string{omega, growing, opening, longer} {
		for _, fuel := range []float64{0, 1000, inf} {
			if got, e := Same(p(t, text), p(t, text), fuel); e == api.OK && !got || e != api.OK && e != api.ErrFuel {
				t.Error(text, fuel, got, e)
			}
		}
	}
}

// TestPartsWithoutNormalForm has terms of which some steps show, or seem to show, whether they are convertible.
func TestPartsWithoutNormalForm(t *testing.T) {
	const step = "(App (Lam x a x) b)"
	for _, end := range []string{omega, growing, opening, longer} {
		for _, c := range [][2]string{
			{"(Pair x a a " + step + " " + end + ")", "(Pair x a a b " + end + ")"},
			{"(Pair x a a " + step + " " + end + ")", "(Pair x a a c " + end + ")"},
			{"(Pair x " + end + " a b c)", "(Pair x " + end + " a c c)"},
			{"(Pair x " + end + " a b c)", "(Pair x a a b c)"},
			{"(Lam x " + end + " x)", "(Lam x a x)"},
			{"(Lam x a (App " + end + " x))", end},
			{"(App " + end + " " + step + ")", "(App " + end + " b)"},
			{"(Eq a " + step + " " + end + ")", "(Eq a b " + end + ")"},
			{"(use uip 0 0 a a a " + step + " " + end + ")", "(use uip 0 0 a a a b " + end + ")"},
			{"(use het 0 0 a a b " + end + ")", "(use het 0 0 a a " + step + " " + end + ")"},
			{"(J a b y e y c b " + end + ")", "(J a b y e y c " + step + " " + end + ")"},
			{"(Refl a " + end + ")", "(Refl b " + end + ")"},
			{end, "(sort 0)"},
		} {
			for _, fuel := range []float64{nan, -1, 0, 3, 100, 1000} {
				for _, d := range [][2]string{c, {c[1], c[0]}} {
					if got, e := Same(p(t, d[0]), p(t, d[1]), fuel); e != api.ErrFuel || got {
						t.Error(d, fuel, got, e)
					}
				}
			}
		}
	}
	a, b := p(t, "(Pair x a a "+step+" "+growing+")"), p(t, "(Pair x a a b "+growing+")")
	for _, fuel := range []float64{2e4, 1e5} {
		if got, e := Same(a, b, fuel); e != api.ErrFuel || got {
			t.Error(fuel, got, e)
		}
	}
}

// TestTurned has pairs of terms of which one ends, or finds its end, later than the other one.
func TestTurned(t *testing.T) {
	far, farther := "b", "b"
	for range 100 {
		far = "(App (Lam x a x) " + far + ")"
	}
	for range 1000 {
		farther = "(App (Lam x a x) " + farther + ")"
	}
	texts := []string{omega, growing, opening, longer, far, farther, "b"}
	for _, x := range texts {
		for _, y := range texts {
			for _, c := range [][2]string{{x, y}, {"(Pair x a a b " + x + ")", "(Pair x a a c " + y + ")"}, {"(Pair x a a " + x + " b)", "(Pair x a a " + y + " b)"}} {
				a, b := p(t, c[0]), p(t, c[1])
				for _, fuel := range []float64{nan, 0, 10, 99, 100, 101, 1099, 1100, 1200, 2e4} {
					got, e := Same(a, b, fuel)
					back, f := Same(b, a, fuel)
					if got != back || e != f {
						t.Error(c, fuel, got, e, back, f)
					}
				}
			}
		}
	}
}

// TestOrder has the order of terms by which it is chosen which one is reduced first.
func TestOrder(t *testing.T) {
	r := naive.Random{Seed: 33}
	for range 2000 {
		a := r.Plain(4, 3)
		b := vary(&r, a, 3)
		if order(a, b) != -order(b, a) || (order(a, b) == 0) != term.Same(a, b) {
			t.Fatal(order(a, b), order(b, a), a, b)
		}
	}
}

func TestArguments(t *testing.T) {
	sort := api.Term{Kind: api.Sort}
	for i, x := range []api.Term{{}, {Kind: api.PApp}, {Kind: api.Refl, Kids: []api.Term{sort, sort}}, {Kind: api.Sort, I: -1}} {
		for _, fuel := range []float64{0, inf, nan} {
			if got, e := Same(x, sort, fuel); got || e != api.ErrArg {
				t.Error(i, got, e)
			}
			if got, e := Same(sort, x, fuel); got || e != api.ErrArg {
				t.Error(i, got, e)
			}
			if got, e := Same(x, x, fuel); got || e != api.ErrArg {
				t.Error(i, got, e)
			}
		}
	}
}

// vary changes a term in ways that may or may not be seen by convertibility.
func vary(r *naive.Random, x api.Term, free int) api.Term {
	switch r.Below(12) {
	case 0:
		return r.Plain(2, free)
	case 1:
		id := api.Term{Kind: api.PLam, Kids: []api.Term{{Kind: api.Sort}, {Kind: api.Var}}}
		return api.Term{Kind: api.PApp, Kids: []api.Term{id, x}}
	case 2:
		return api.Term{Kind: api.PPair, Kids: []api.Term{{Kind: api.Sort}, {Kind: api.Sort}, {Kind: api.PFst, Kids: []api.Term{x}}, {Kind: api.PSnd, Kids: []api.Term{x}}}}
	}
	kids := append([]api.Term(nil), x.Kids...)
	if len(kids) > 0 {
		i := r.Below(len(kids))
		kids[i] = vary(r, kids[i], free+term.Binds(x.Kind, i))
	}
	x.Kids = kids
	return x
}

func TestAgainstTrees(t *testing.T) {
	r := naive.Random{Seed: 19}
	count := map[bool]int{}
	for range 6000 {
		a := r.Plain(5, 3)
		b := vary(&r, a, 3)
		s := naive.Steps{Left: 300}
		x, ok := s.Norm(a)
		y, ok2 := s.Norm(b)
		n := float64(300 - s.Left)
		if !ok || !ok2 {
			for _, fuel := range []float64{0, 50} {
				if _, e := Same(a, b, fuel); e == api.OK && !term.Same(a, b) && term.Size(x) < 1000 && term.Size(y) < 1000 {
					t.Fatal("no normal form", a, b)
				}
			}
			continue
		}
		want := naive.Alike(x, y)
		count[want]++
		if got, e := Same(a, b, n); e != api.OK || got != want {
			t.Fatal(want, got, e, n, a, b)
		}
		if got, e := Same(b, a, n); e != api.OK || got != want {
			t.Fatal("turned", want, got, e, n, a, b)
		}
		for f := 0.0; f < n; f += 1 + n/4 {
			if got, e := Same(a, b, f); e == api.OK && got != want {
				t.Fatal("less", f, a, b)
			}
		}
	}
	if count[true] < 500 || count[false] < 500 {
		t.Error(count)
	}
}

// TestAgainstNormalForms has terms of which many have no normal form.
func TestAgainstNormalForms(t *testing.T) {
	r := naive.Random{Seed: 34}
	ends := []api.Term{p(t, omega), p(t, growing), p(t, opening), p(t, longer)}
	count := map[api.Errno]int{}
	for range 1500 {
		a := put(&r, r.Plain(5, 3), ends[r.Below(4)])
		b := vary(&r, a, 3)
		for _, fuel := range []float64{0, 7, 60, 500} {
			got, e := Same(a, b, fuel)
			if back, f := Same(b, a, fuel); got != back || e != f {
				t.Fatal("turned", fuel, got, e, back, f, a, b)
			}
			if term.Same(a, b) {
				continue
			}
			count[e]++
			x, f := norm.Norm(a, fuel)
			y, g := norm.Norm(b, fuel)
			if e == api.OK && (f != api.OK || g != api.OK || got != naive.Alike(x, y)) || got && e != api.OK {
				t.Fatal(fuel, got, e, f, g, a, b)
			}
		}
	}
	if count[api.OK] < 500 || count[api.ErrFuel] < 500 {
		t.Error(count)
	}
}

// put puts x somewhere into a term, in the place of a closed part or of a variable.
func put(r *naive.Random, t, x api.Term) api.Term {
	if len(t.Kids) == 0 {
		return x
	}
	kids := append([]api.Term(nil), t.Kids...)
	i := r.Below(len(kids))
	kids[i] = put(r, kids[i], x)
	t.Kids = kids
	return t
}
