package kernel

import (
	"math"
	"strings"
	"testing"

	"tranship/api"
	"tranship/conv"
	"tranship/lift"
	"tranship/naive"
	"tranship/norm"
	"tranship/read"
	"tranship/sig"
	"tranship/subst"
	"tranship/term"
)

var inf, nan = math.Inf(1), math.NaN()

const omega = "(App (Lam x (sort 0) (App x x)) (Lam x (sort 0) (App x x)))"

var names = strings.Fields("A a F f p e T t g q")

func p(t *testing.T, text string, n int) api.Term {
	x, e, at := read.Read(text, names[:n], 0, 0)
	if e != api.OK {
		t.Fatal(text, e, at)
	}
	return x
}

// sample is a context; the types of t and g, and T, are types by computation only.
func sample(t *testing.T) []api.Term {
	var c []api.Term
	for k, text := range []string{"(sort 0)", "A", "(Pi x A (sort 0))", "(Pi x A (App F x))", "(Sig x A (App F x))", "(Eq A a a)",
		"(App (Lam x (sort 2) x) (sort 1))", "(Fst (Pair x (sort 0) x A a))", "(App (Lam x (sort 0) (Pi y x x)) A)", "(App (Lam x (sort 0) (Sig y x x)) A)"} {
		c = append(c, p(t, text, k))
	}
	return c
}

// Each row: a term, and its type, or nothing if it has none.
const rows = `(sort 0) : (sort 1)
(sort 999) : (sort 1000)
(sort 1000) :
a : A
e : (Eq A a a)
T : (App (Lam x (sort 2) x) (sort 1))
(Pi x A (App F x)) : (sort 0)
(Pi x T (sort 0)) : (sort 1)
(Pi x A T) : (sort 1)
(Pi x a x) :
(Pi x A a) :
(Pi x A x) :
(Sig x A (App F x)) : (sort 0)
(Sig x (sort 3) A) : (sort 4)
(Sig x f A) :
(Sig x A a) :
(Lam x (sort 0) x) : (Pi x (sort 0) (sort 0))
(Lam x A (App f x)) : (Pi x A (App F x))
(Lam x a x) :
(Lam x A (App f F)) :
(App f a) : (App F a)
(App g a) : A
(App g t) : A
(App f A) :
(App a a) :
(App p a) :
(App f (sort 0)) :
(Pair x A (App F x) a (App f a)) : (Sig x A (App F x))
(Pair x a A a a) :
(Pair x A a a a) :
(Pair x A (App F x) F (App f a)) :
(Pair x A (App F x) a a) :
(Pair x A (App (Lam y A A) x) a t) : (Sig x A (App (Lam y A A) x))
(Fst p) : A
(Fst q) : A
(Fst f) :
(Snd p) : (App F (Fst p))
(Snd q) : A
(Snd f) :
(Eq A a t) : (sort 0)
(Eq T T T) :
(Eq (sort 1) (sort 0) (sort 0)) : (sort 2)
(Eq a a a) :
(Eq A F a) :
(Eq A a F) :
(Refl A a) : (Eq A a a)
(Refl a a) :
(Refl A F) :
(J A a y e (Eq A y a) (Refl A a) t (Refl A a)) :
(J A a y e (Eq A y a) (Refl A a) a e) : (Eq A a a)
(J A a y h (Eq (Eq A a y) h h) (Refl (Eq A a a) (Refl A a)) a e) : (Eq (Eq A a a) e e)
(J a a y e (Eq A y a) (Refl A a) a e) :
(J A F y e (Eq A y a) (Refl A a) a e) :
(J A a y e y (Refl A a) a e) :
(J A a y e (Eq A y a) e a e) : (Eq A a a)
(J A a y e (Eq A y a) a a e) :
(J A a y e (Eq A y a) (Refl A a) F e) :
(J A a y e (Eq A y a) (Refl A a) a a) :
(J A a y h (App F y) (App f a) a e) : (App F a)
(use sym 0 0 A a a e) : (Eq A a a)
(use sym 0 7 A a a e) : (Eq A a a)
(use sym 1 0 A a a e) :
(use sym 1000 0 A a a e) :
(use sym 0 1000 A a a e) :
(use sym 0 0 a a a e) :
(use sym 0 0 A F a e) :
(use sym 0 0 A a F e) :
(use sym 0 0 A a a a) :
(use uip 0 0 A a a e (Refl A a)) : (Eq (Eq A a a) e (Refl A a))
(use het 0 0 A A a t) : (sort 1)
(use tr 0 0 A A (Refl (sort 0) A) a) : A
(Lam x ` + omega + ` x) :
(Lam x A ` + omega + `) :`

func TestRows(t *testing.T) {
	c := sample(t)
	if e := Ctx(c, 1000); e != api.OK {
		t.Fatal(e)
	}
	for _, row := range strings.Split(rows, "\n") {
		text, want, _ := strings.Cut(row, " :")
		x := p(t, text, len(c))
		for _, fuel := range []float64{1000, 1e9, inf} {
			a, e := Infer(c, x, fuel)
			if want == "" {
				if e != api.ErrType || a.Kind != 0 || Check(c, x, p(t, "(sort 5)", 0), fuel) != api.ErrType {
					t.Error(row, a, e)
				}
				continue
			}
			if same, f := conv.Same(a, p(t, want, len(c)), 1e6); e != api.OK || f != api.OK || !same {
				t.Error(row, a, e)
			}
			if x.I < 999 && Check(c, x, a, fuel) != api.OK || Check(c, x, p(t, "f", len(c)), fuel) != api.ErrType || Check(c, x, p(t, "(sort 77)", 0), fuel) != api.ErrType {
				t.Error("Check", row)
			}
			if b, e := Infer(c, a, fuel); x.I < 999 && e != api.OK {
				t.Error("type of the type", row, b, e)
			}
		}
		for _, fuel := range []float64{nan, -1, 0, 1, 2} {
			a, e := Infer(c, x, fuel)
			if e == api.OK && want == "" || e == api.ErrType && want != "" || e == api.ErrArg || e != api.OK && a.Kind != 0 {
				t.Error("less", fuel, row, e)
			}
		}
	}
}

func TestFuel(t *testing.T) {
	c := sample(t)
	for text, fuel := range map[string]float64{"(Pi x T (sort 0))": 1, "(App g a)": 1, "(Refl A t)": 1, "(use sym 0 0 A a a e)": 0, "(Lam x A (App f x))": 0, "(use tr 0 0 A A (Refl (sort 0) A) a)": 0} {
		if _, e := Infer(c, p(t, text, len(c)), fuel); e != api.OK {
			t.Error(text, e)
		}
		if _, e := Infer(c, p(t, text, len(c)), fuel-1); fuel > 0 && e != api.ErrFuel {
			t.Error("less", text, e)
		}
	}
	var many []string
	for range 50 {
		many = append(many, "(Eq A (App g a) ")
	}
	text := "(Lam x A " + strings.Join(many, "") + "a" + strings.Repeat(")", 51)
	if _, e := Infer(c, p(t, text, len(c)), 1); e != api.ErrType {
		t.Error("each by itself", e)
	}
	w := p(t, omega, 0)
	if _, e := Infer([]api.Term{w}, p(t, "(App A A)", 1), 100); e != api.ErrFuel {
		t.Error(e)
	}
	if a, e := Infer([]api.Term{w}, p(t, "A", 1), 0); e != api.OK || !term.Same(a, w) {
		t.Error("the context is not asked", e)
	}
	if e := Ctx([]api.Term{w}, 100); e != api.ErrType {
		t.Error(e)
	}
}

func TestCheck(t *testing.T) {
	c := sample(t)
	for _, r := range []struct {
		x, a string
		want api.Errno
	}{
		{"a", "A", api.OK}, {"a", "(Fst (Pair x (sort 0) x A a))", api.OK}, {"t", "A", api.OK}, {"a", "F", api.ErrType}, {"a", "(App F a)", api.ErrType}, {"a", "a", api.ErrType},
		{"(sort 0)", "(sort 1)", api.OK}, {"(sort 0)", "(sort 2)", api.ErrType}, {"(sort 999)", "(sort 1000)", api.ErrType}, {"g", "(Pi x A A)", api.OK}, {"(Lam x A x)", "(Pi x A A)", api.OK},
		{"(App a a)", "A", api.ErrType}, {"(Lam x A x)", "(Pi x A (App F x))", api.ErrType}, {omega, "A", api.ErrType}, {"a", omega, api.ErrType},
	} {
		if e := Check(c, p(t, r.x, len(c)), p(t, r.a, len(c)), 1000); e != r.want {
			t.Error(r, e)
		}
	}
	if e := Check(c, p(t, "(App a a)", len(c)), p(t, "(Eq A a (Fst p))", len(c)), nan); e != api.ErrType {
		t.Error(e)
	}
}

func TestCtx(t *testing.T) {
	c := sample(t)
	for k := range c {
		if e := Ctx(c[:k], 10); e != api.OK {
			t.Error(k, e)
		}
		if e := Ctx(append(c[:k:k], p(t, "(Refl (sort 1) (sort 0))", 0)), 10); e != api.ErrType {
			t.Error("no type", k, e)
		}
	}
	if e := Ctx(append(c[:7:7], p(t, "(Pi x T A)", 7)), 0); e != api.ErrFuel {
		t.Error(e)
	}
	if e := Ctx(append(c[:6:6], p(t, "(Pi x a A)", 6), p(t, "(App (Lam x (sort 2) x) (sort 1))", 6)), 0); e != api.ErrType {
		t.Error(e)
	}
	if e := Ctx(nil, nan); e != api.OK {
		t.Error(e)
	}
}

// growing is a term without a normal form, which becomes greater with each round of steps.
const growing = "(App (App (Lam x (sort 0) (Lam y (sort 0) (App (App x x) (Fst y)))) (Lam x (sort 0) (Lam y (sort 0) (App (App x x) (Fst y))))) (sort 0))"

// TestWrongContexts has contexts that Ctx does not accept: what is compared there are any terms, whether they have
// normal forms or not.
func TestWrongContexts(t *testing.T) {
	const step = "(App (Lam x (sort 0) x) (sort 1))"
	for _, r := range []struct {
		a, b string
		want api.Errno
	}{
		{"(Pair x A A " + step + " (sort 0))", "(Pair x A A (sort 1) (sort 0))", api.OK},
		{"(Pair x A A " + step + " (sort 0))", "(Pair x A A (sort 2) (sort 0))", api.ErrType},
		{"(Fst (Pair x A A " + step + " " + growing + "))", "(sort 1)", api.OK},
		{"(Fst (Pair x A A " + step + " " + growing + "))", "A", api.ErrType},
		{growing, growing, api.OK},
		{"(Pair x A A " + step + " " + growing + ")", "(Pair x A A (sort 1) " + growing + ")", api.ErrFuel},
		{"(Pair x A A " + step + " " + growing + ")", "(Pair x A A (sort 2) " + growing + ")", api.ErrFuel},
		{"(Pair x A A " + omega + " A)", "(Pair x A A A A)", api.ErrFuel},
		{"(Lam x " + omega + " x)", "(Lam x A x)", api.ErrFuel},
		{"A", "(Refl " + growing + " A)", api.ErrFuel},
	} {
		for _, x := range [][2]string{{r.a, r.b}, {r.b, r.a}} {
			// f takes what has the type x[0]; a has the type x[1].
			c := []api.Term{p(t, "(sort 0)", 0), p(t, "(Pi x "+x[0]+" A)", 1), lift.Lift(p(t, x[1], 1), 1, 0)}
			f, a := api.Term{Kind: api.Var, I: 1}, api.Term{Kind: api.Var}
			call := api.Term{Kind: api.PApp, Kids: []api.Term{f, a}}
			for _, fuel := range []float64{100, 1e4} {
				is, e := Infer(c, call, fuel)
				if e != r.want || (e == api.OK) != term.Same(is, api.Term{Kind: api.Var, I: 2}) {
					t.Error(x, fuel, is, e)
				}
				if e := Check(c, call, api.Term{Kind: api.Var, I: 2}, fuel); e != r.want {
					t.Error("Check", x, fuel, e)
				}
				if e := Ctx(c, fuel); e != api.ErrType {
					t.Error("Ctx", x, fuel, e)
				}
			}
		}
	}
}

func TestArguments(t *testing.T) {
	sort, v := api.Term{Kind: api.Sort}, api.Term{Kind: api.Var}
	refl := api.Term{Kind: api.Refl, Kids: []api.Term{sort, sort}}
	for i, x := range []api.Term{{}, refl, {Kind: api.PApp}, {Kind: api.Var, I: 1}, {Kind: api.PLam, Kids: []api.Term{sort, {Kind: api.Var, I: 2}}}} {
		for _, fuel := range []float64{inf, nan} {
			if a, e := Infer([]api.Term{sort}, x, fuel); e != api.ErrArg || a.Kind != 0 {
				t.Error(i, e)
			}
			if Check([]api.Term{sort}, x, sort, fuel) != api.ErrArg || Check([]api.Term{sort}, sort, x, fuel) != api.ErrArg || Check([]api.Term{sort, x}, sort, sort, fuel) != api.ErrArg && i != 4 && i != 3 {
				t.Error("Check", i)
			}
		}
	}
	for i, c := range [][]api.Term{{v}, {sort, {Kind: api.Var, I: 1}}, {refl}, {{}}, {sort, {Kind: api.PPi, Kids: []api.Term{v, {Kind: api.Var, I: 2}}}}} {
		_, e := Infer(c, sort, inf)
		if e != api.ErrArg || Check(c, sort, sort, inf) != api.ErrArg || Ctx(c, inf) != api.ErrArg {
			t.Error("context", i, e)
		}
	}
}

// TestStepsKeepTypes reduces the bodies of the library and its types, head step by head step and as a whole.
func TestStepsKeepTypes(t *testing.T) {
	for n := 3; n <= 12; n++ {
		s, _ := sig.At(n, 1, 0)
		use := api.Term{Kind: api.PUse, N: n, I: 1}
		for k := range s.Params {
			use.Kids = append(use.Kids, api.Term{Kind: api.Var, I: len(s.Params) - 1 - k})
		}
		for x, ok := use, true; ok; x, ok = naive.HeadStep(x) {
			if e := Check(s.Params, x, s.Type, 1e5); e != api.OK {
				t.Error(n, e)
			}
		}
		x, e := norm.Norm(use, 1e5)
		a, f := norm.Norm(s.Type, 1e5)
		if e != api.OK || f != api.OK || Check(s.Params, x, a, 1e5) != api.OK {
			t.Error(n, e, f)
		}
	}
}

func TestSubstitutionKeepsTypes(t *testing.T) {
	c := sample(t)[:2]
	inner := append(c[:2:2], p(t, "A", 2))
	for _, text := range []string{"(Refl A z)", "(Lam x (Eq A z a) (use sym 0 0 A z a x))", "(Pair x A (Eq A x z) z (Refl A z))"} {
		x, e, _ := read.Read(text, []string{"A", "a", "z"}, 0, 0)
		if e != api.OK {
			t.Fatal(text)
		}
		a, e := Infer(inner, x, 100)
		if e != api.OK {
			t.Error(text, e)
		}
		u := p(t, "(Fst (Pair x A A a a))", 2)
		if e := Check(c, subst.Put(x, u), subst.Put(a, u), 100); e != api.OK {
			t.Error(text, e)
		}
		if e := Check(append(c[:2:2], p(t, "(sort 4)", 0)), lift.Lift(subst.Put(x, u), 1, 0), lift.Lift(subst.Put(a, u), 1, 0), 100); e != api.OK {
			t.Error("lifted", text, e)
		}
	}
}

func TestDeep(t *testing.T) {
	x := p(t, "(sort 0)", 0)
	n := 1 << 14
	for range n {
		x = api.Term{Kind: api.PLam, Kids: []api.Term{{Kind: api.Sort}, x}}
	}
	a, e := Infer(nil, x, 0)
	if e != api.OK || term.Deep(a) != n+1 {
		t.Error(e)
	}
}
