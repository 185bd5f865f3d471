package mark

import (
	"math"
	"strings"
	"testing"

	"tranship/api"
	"tranship/conv"
	"tranship/ctx"
	"tranship/kernel"
	"tranship/lift"
	"tranship/read"
	"tranship/strip"
	"tranship/term"
)

var inf, nan = math.Inf(1), math.NaN()

// TA is A by computation.
var short = strings.NewReplacer("Fx", "(app 0 1 x A (sort 0) F x)", "Fa", "(app 0 1 x A (sort 0) F a)", "TA", "(app 1 1 x (sort 0) (sort 0) (lam 1 1 x (sort 0) (sort 0) x) A)", "RA", "(Refl (sort 0) A)")

var names = strings.Fields("A a F f p e t E")

func m(t *testing.T, text string, n int) api.Term {
	x, e, at := read.Read(short.Replace(text), names[:n], 0, 0)
	if e != api.OK {
		t.Fatal(text, e, at)
	}
	return x
}

func sample(t *testing.T) []api.Entry {
	var c []api.Entry
	for k, text := range []string{"(sort 0)", "A", "(pi 0 1 x A (sort 0))", "(pi 0 0 x A Fx)", "(sig 0 0 x A Fx)", "(eq 0 A a a)", "TA", "(eq 1 (sort 0) A Fa)"} {
		c = ctx.Add(c, m(t, text, k), []int{1, 0, 1, 0, 0, 0, 0, 1}[k])
	}
	return c
}

// Each row: a term, and its type and level, or nothing if it has none.
const rows = `(sort 0) : (sort 1) @ 2
(sort 998) : (sort 999) @ 1000
(sort 999) :
a : A @ 0
e : (eq 0 A a a) @ 0
TA : (sort 0) @ 1
(pi 0 0 x A Fx) : (sort 0) @ 1
(pi 0 1 x TA (sort 0)) : (sort 1) @ 2
(pi 3 1 x (sort 2) (sort 0)) : (sort 3) @ 4
(pi 1 0 x A Fx) :
(pi 0 1 x A Fx) :
(pi 0 0 x a Fx) :
(pi 0 0 x A x) :
(pi 999 0 x (sort 998) A) : (sort 999) @ 1000
(sig 0 0 x A Fx) : (sort 0) @ 1
(sig 0 2 x A (sort 1)) : (sort 2) @ 3
(sig 0 1 x A Fx) :
(sig 1 0 x A Fx) :
(lam 0 0 x A Fx (app 0 0 x A Fx f x)) : (pi 0 0 x A Fx) @ 0
(lam 0 1 x A (sort 0) Fx) : (pi 0 1 x A (sort 0)) @ 1
(lam 1 0 x (sort 0) A a) : (pi 1 0 x (sort 0) A) @ 1
(lam 0 0 x TA A x) : (pi 0 0 x TA A) @ 0
(lam 1 0 x A A x) :
(lam 0 1 x A A x) :
(lam 0 0 x A Fx x) :
(lam 0 0 x a A a) :
(lam 0 0 x A a x) :
(lam 0 1 x A (sort 0) x) :
(app 0 0 x A Fx f a) : Fa @ 0
(app 0 0 x A Fx f t) : (app 0 1 x A (sort 0) F t) @ 0
(app 0 0 x TA Fx f a) : Fa @ 0
(app 0 0 x A Fx F a) :
(app 0 0 x A Fx f A) :
(app 1 0 x A Fx f a) :
(app 0 1 x A Fx f a) :
(app 0 0 x A A f a) :
(app 0 0 x A a f a) :
(app 0 0 x a Fx f a) :
(app 0 1 x A (sort 0) F a) : (sort 0) @ 1
(app 0 1 x A (sort 0) f a) :
(pair 0 0 x A Fx a (app 0 0 x A Fx f a)) : (sig 0 0 x A Fx) @ 0
(pair 0 1 x A (sort 0) a A) : (sig 0 1 x A (sort 0)) @ 1
(pair 0 0 x A A t a) : (sig 0 0 x A A) @ 0
(pair 0 0 x A Fx a a) :
(pair 0 0 x A Fx F a) :
(pair 1 0 x A Fx a (app 0 0 x A Fx f a)) :
(pair 0 1 x A Fx a (app 0 0 x A Fx f a)) :
(fst 0 0 x A Fx p) : A @ 0
(fst 0 0 x TA Fx p) : TA @ 0
(fst 0 0 x A A p) :
(fst 0 0 x A Fx f) :
(fst 0 1 x A Fx p) :
(fst 1 0 x A Fx p) :
(snd 0 0 x A Fx p) : (app 0 1 x A (sort 0) F (fst 0 0 x A Fx p)) @ 0
(snd 0 0 x A A p) :
(snd 0 1 x A (sort 0) (pair 0 1 x A (sort 0) a A)) : (sort 0) @ 1
(eq 0 A a t) : (sort 0) @ 1
(eq 1 (sort 0) A Fa) : (sort 1) @ 2
(eq 1 A a a) :
(eq 0 A A a) :
(eq 0 A a A) :
(eq 0 a a a) :
(eq 999 (sort 998) (sort 997) (sort 997)) : (sort 999) @ 1000
(refl 0 A a) : (eq 0 A a a) @ 0
(refl 0 TA a) : (eq 0 TA a a) @ 0
(refl 1 A a) :
(refl 0 A A) :
(refl 0 a a) :
(tr 0 A A RA a) : A @ 0
(tr 0 A TA RA a) : TA @ 0
(tr 0 A Fa E a) : Fa @ 0
(tr 0 Fa A E (app 0 0 x A Fx f a)) :
(tr 0 Fa A (use sym 1 0 (sort 0) A (App F a) E) (app 0 0 x A Fx f a)) : A @ 0
(tr 0 A Fa E (app 0 0 x A Fx f a)) :
(tr 0 A A e a) :
(tr 1 A A RA a) :
(tr 0 a A RA a) :
(tr 0 A a RA a) :
(tr 0 A A RA A) :
(tr 0 A A (App RA a) a) :
(tr 1 (sort 0) (sort 0) (Refl (sort 1) (sort 0)) A) : (sort 0) @ 1
(pi 0 0 x (tr 1 (sort 0) (sort 0) (Refl (sort 1) (sort 0)) A) x) :
(lam 0 0 x A (tr 1 (sort 0) (sort 0) (Refl (sort 1) (sort 0)) A) x) : (pi 0 0 x A (tr 1 (sort 0) (sort 0) (Refl (sort 1) (sort 0)) A)) @ 0
(lam 0 0 x A (tr 1 (sort 0) (sort 1) (Refl (sort 1) (sort 0)) A) x) :`

func TestRows(t *testing.T) {
	c := sample(t)
	if e := Ctx(c, 100); e != api.OK {
		t.Fatal(e)
	}
	for _, row := range strings.Split(rows, "\n") {
		text, rest, _ := strings.Cut(row, " :")
		want, level, _ := strings.Cut(strings.TrimSpace(rest), " @ ")
		i := 0
		for _, d := range level {
			i = 10*i + int(d-'0')
		}
		x := m(t, text, len(c))
		for _, fuel := range []float64{100, 1e9, inf} {
			a, l, e := Type(c, x, fuel)
			if want == "" {
				if e != api.ErrType || l != 0 || a.Kind != 0 {
					t.Error(row, a, l, e)
				}
				continue
			}
			if e != api.OK || l != i || !term.Same(a, m(t, want, len(c))) {
				t.Error(row, a, l, e)
			}
			if k, e := kernel.Infer(ctx.Plain(c), strip.Strip(x), fuel); e != api.OK {
				t.Error("kernel", row, e)
			} else if same, e := conv.Same(k, strip.Strip(a), 1e6); !same || e != api.OK {
				t.Error("kernel's type", row, k)
			}
		}
		for _, fuel := range []float64{nan, -1, 0, 1, 2} {
			a, _, e := Type(c, x, fuel)
			if e == api.OK && want == "" || e == api.ErrType && want != "" || e == api.ErrArg || e != api.OK && a.Kind != 0 {
				t.Error("less", fuel, row, e)
			}
		}
	}
}

// TestLevelsAreSeen changes each level of terms that have types.
func TestLevelsAreSeen(t *testing.T) {
	c := sample(t)
	for _, text := range []string{"(pi 0 0 x A Fx)", "(sig 0 0 x A Fx)", "(lam 0 0 x A A x)", "(app 0 0 x A Fx f a)", "(pair 0 0 x A A a a)", "(fst 0 0 x A Fx p)", "(snd 0 0 x A Fx p)", "(eq 0 A a a)", "(refl 0 A a)", "(tr 0 A A (Refl (sort 0) A) a)"} {
		x := m(t, text, len(c))
		for _, change := range []func(x *api.Term){func(x *api.Term) { x.I++ }, func(x *api.Term) { x.J++ }} {
			y := x
			change(&y)
			if _, _, e := Type(c, y, 100); e != api.ErrType && term.Marked(y) {
				t.Error(text, e)
			}
		}
	}
}

func TestFuel(t *testing.T) {
	c := sample(t)
	for text, want := range map[string]api.Errno{"(refl 0 TA a)": api.ErrFuel, "(lam 0 0 x A A x)": api.OK, "(tr 0 A TA (Refl (sort 0) A) a)": api.ErrFuel, "(eq 0 A a A)": api.ErrType} {
		if _, _, e := Type(c, m(t, text, len(c)), 0); e != want {
			t.Error(text, e)
		}
		if _, _, e := Type(c, m(t, text, len(c)), 1); want == api.ErrFuel && e != api.OK {
			t.Error("one step each", text, e)
		}
	}
}

func TestCtx(t *testing.T) {
	c := sample(t)
	for k := range c {
		if e := Ctx(c[:k], 10); e != api.OK {
			t.Error(k, e)
		}
		d := append(c[:k:k], api.Entry{A: c[k].A, I: c[k].I + 1})
		if e := Ctx(append(d, c[k+1:]...), 10); e != api.ErrType {
			t.Error("level", k, e)
		}
		if e := Ctx(append(c[:k:k], api.Entry{A: m(t, "(refl 1 (sort 0) (sort 0))", 0), I: 0}), 10); e != api.ErrType {
			t.Error("no type", k, e)
		}
	}
	if e := Ctx([]api.Entry{{A: m(t, "(app 2 2 x (sort 1) (sort 1) (lam 2 2 x (sort 1) (sort 1) x) (sort 0))", 0), I: 1}, {A: m(t, "A", 1), I: 0}}, 0); e != api.ErrFuel {
		t.Error(e)
	}
	if e := Ctx(nil, nan); e != api.OK {
		t.Error(e)
	}
}

// TestWrongContexts has contexts that Ctx does not accept: what is compared there are any terms, whether they have
// normal forms or not.
func TestWrongContexts(t *testing.T) {
	const (
		half    = "(lam 0 0 x A A (lam 0 0 y A A (app 0 0 z A A (app 0 0 z A A x x) (fst 0 0 z A A y))))"
		growing = "(app 0 0 z A A (app 0 0 z A A " + half + " " + half + ") a)"
		id      = "(lam 0 0 x A A x)"
		is      = "(eq 0 (pi 0 0 x A A) " + id + " " + id + ")"
	)
	for text, want := range map[string]api.Errno{
		is: api.OK,
		"(eq 0 (pi 0 0 x A A) (lam 0 0 x F A x) " + id + ")":               api.OK,
		"(eq 0 (pi 0 0 x A F) " + id + " " + id + ")":                      api.ErrType,
		"(fst 0 0 x A A (pair 0 0 x A A A " + growing + "))":               api.ErrType,
		"(eq 0 (pi 0 0 x A A) (lam 0 0 x " + growing + " A x) " + id + ")": api.ErrFuel,
		"(refl 0 " + growing + " a)":                                       api.ErrFuel,
		"(pair 0 0 x A A a " + growing + ")":                               api.ErrFuel,
	} {
		c := append(sample(t), api.Entry{A: m(t, text, 8)})
		y := api.Term{Kind: api.Var}
		a := lift.Lift(m(t, is, 8), 1, 0)
		p := api.Term{Kind: api.PRefl, Kids: []api.Term{{Kind: api.Sort}, strip.Strip(a)}}
		for _, fuel := range []float64{100, 1e4} {
			for _, x := range []api.Term{{Kind: api.Refl, Kids: []api.Term{a, y}}, {Kind: api.Tr, Kids: []api.Term{a, a, p, y}}} {
				if _, _, e := Type(c, x, fuel); e != want {
					t.Error(text, fuel, x.Kind, e)
				}
			}
		}
		if e := Ctx(c, 100); text != is && e != api.ErrType {
			t.Error("Ctx", text, e)
		}
	}
}

func TestArguments(t *testing.T) {
	sort, v := api.Term{Kind: api.Sort}, api.Term{Kind: api.Var}
	good := []api.Entry{{A: sort, I: 1}}
	for i, x := range []api.Term{{}, {Kind: api.PRefl, Kids: []api.Term{sort, sort}}, {Kind: api.Refl, Kids: []api.Term{sort}}, {Kind: api.Var, I: 1}, {Kind: api.Pi, Kids: []api.Term{sort, {Kind: api.Var, I: 2}}}} {
		for _, fuel := range []float64{inf, nan} {
			if a, l, e := Type(good, x, fuel); e != api.ErrArg || l != 0 || a.Kind != 0 {
				t.Error(i, e)
			}
		}
	}
	for i, c := range [][]api.Entry{{{A: v}}, {{A: sort, I: -1}}, {{A: sort, I: 1001}}, {{}}, {{A: api.Term{Kind: api.PFst, Kids: []api.Term{sort}}}}} {
		if _, _, e := Type(c, sort, inf); e != api.ErrArg || Ctx(c, inf) != api.ErrArg {
			t.Error("context", i, e)
		}
	}
}

func TestResultIsNew(t *testing.T) {
	c := sample(t)
	x := m(t, "(refl 0 A (fst 0 0 x A Fx p))", len(c))
	a, _, _ := Type(c, x, 100)
	a.Kids[1].Kids[0] = api.Term{Kind: api.Sort, I: 9}
	if a.Kids[2].Kids[0].Kind != api.Var || x.Kids[1].Kids[0].Kind != api.Var {
		t.Error("shared")
	}
}
