package result

import (
	"math"
	"strings"
	"testing"

	"tranship/api"
	"tranship/ctx"
	"tranship/parse"
	"tranship/term"
	"tranship/trans"
)

var inf, nan = math.Inf(1), math.NaN()

func sort(i int) api.Term     { return api.Term{Kind: api.Sort, I: i} }
func variable(i int) api.Term { return api.Term{Kind: api.Var, I: i} }

func same(a, b Result) bool {
	return ctx.Same(a.Ctx, b.Ctx) && a.Equal == b.Equal && a.I == b.I && term.Same(a.A, b.A) && term.Same(a.U, b.U) && term.Same(a.B, b.B) && term.Same(a.V, b.V) && term.Same(a.H, b.H)
}

// samples are results with their texts.
func samples() map[string]Result {
	c := []api.Entry{{A: sort(0), I: 1}, {A: variable(0), I: 0}}
	refl := api.Term{Kind: api.PRefl, Kids: []api.Term{variable(1), variable(0)}}
	lam := api.Term{Kind: api.Lam, Kids: []api.Term{variable(1), variable(2), variable(0)}}
	pi := api.Term{Kind: api.Pi, Kids: []api.Term{variable(1), variable(2)}}
	return map[string]Result{
		"(term () 2 (sort 0) (sort 1))\n":                                      {I: 2, U: sort(0), A: sort(1)},
		"(term (1 (sort 0) 0 v0) 0 v1 v0)\n":                                   {Ctx: c, U: variable(0), A: variable(1)},
		"(term (1 (sort 0)) 1000 v0 (sort 3))\n":                               {Ctx: c[:1], I: 1000, U: variable(0), A: sort(3)},
		"(term (1 (sort 0) 0 v0) 0 (lam 0 0 v2 v0 v0 v2) (pi 0 0 v2 v0 v0))\n": {Ctx: c, U: lam, A: pi},
		"(equal (1 (sort 0) 0 v0) 7 v0 v1 (sort 2) (sort 1) (Refl v0 v1))\n":   {Ctx: c, Equal: true, I: 7, A: variable(1), U: variable(0), B: sort(2), V: sort(1), H: refl},
		"(equal (1 (sort 0) 0 v0) 0 v0 v1 v0 v1 v0)\n":                         {Ctx: c, Equal: true, A: variable(1), U: variable(0), B: variable(1), V: variable(0), H: variable(1)},
	}
}

func TestTexts(t *testing.T) {
	for text, r := range samples() {
		if !Right(r) || Text(r) != text {
			t.Error(text, Text(r))
		}
		wide := strings.NewReplacer("(", "( ;x\n", ")", "\t) ", " ", "\n\n").Replace(text)
		for _, s := range []string{text, strings.TrimSuffix(text, "\n"), ";r\n" + wide + ";end"} {
			if got, e, at := Read(s); e != api.OK || at != 0 || !same(got, r) {
				t.Errorf("%q: %v %d %d", s, got, e, at)
			}
		}
		for k := 0; k < len(text)-2; k++ {
			if got, e, at := Read(text[:k]); e != api.ErrParse || at > k || !same(got, Result{}) {
				t.Errorf("%q: %d %d", text[:k], e, at)
			}
		}
	}
	if r, e, _ := Read("(term () 0 (sort (suc i)) (sort (max j 2)))"); e != api.OK || r.U.I != 1 || r.A.I != 2 {
		t.Error("levels", r)
	}
}

func TestFaults(t *testing.T) {
	for text, want := range map[string]int{
		"": 0, " ": 1, "(": 1, "term": 0, "(foo": 1, "(term 2": 6, "(term (": 7, "(term ()": 8, "(term () x": 9, "(term () 1001 (sort 0) (sort 0))": 9, "(term () (suc 0) (sort 0) (sort 0))": 9,
		"(term (1001 (sort 0)) 0 v0 v0)": 7, "(term (v0) 0 v0 v0)": 7, "(term (0 v0) 0 v0 v0)": 9, "(term (1 (sort 0) 0 v1) 0 v0 v0)": 20, "(term (1) 0 v0 v0)": 8, "(term (1 (Pi v0 (sort 0) v0)) 0 v0 v0)": 10,
		"(term () 2 (sort 0))": 19, "(term () 2 (sort 0) (sort 1) (sort 2))": 29, "(term () 2 (sort 0) (sort 1)) x": 30, "(term () 2 (sort 0) (sort 1)": 28, "(term () 2 (Refl (sort 0) (sort 1)) (sort 1))": 12, "(term () 2 (sort 0) (use": 21,
		"(term () 2 (sort 0) (sort 1001))": 26, "(term () 2 (sort 0) (foo))": 21, "(term () 2 v0 (sort 1))": 11, "(term () 2 (eq 0 (sort 0) (Fst v0)": 27, "(term () 2 (tr 0 (sort 0) (sort 0) (fst": 36,
		"(equal () 0 (sort 0) (sort 0) (sort 0) (sort 0))": 47, "(equal () 0 (sort 0) (sort 0) (sort 0) (sort 0) (refl 0 (sort 0) (sort 0)))": 49, "(equal () 0 (sort 0) (sort 0) (sort 0) (sort 0) (sort 0) (sort 0))": 57, "(equal () 0 (Refl": 13,
		"$": 0, "(term () 2 (sort $": 17, "(term () 2 (sort 0) (sort 1)) $": 30, "(term () 2 $": 11, "(term () 01": 9, "(foo $": 1, "(term () 2 (sort 0) x $": 20, "(term () 2 (sort 0) (sort 1) $": 29, "(term (1 (sort 0) $": 18,
	} {
		if r, e, at := Read(text); e != api.ErrParse || at != want || !same(r, Result{}) {
			t.Errorf("%q: %v %d %d", text, r, e, at)
		}
	}
}

func TestRight(t *testing.T) {
	r := samples()["(equal (1 (sort 0) 0 v0) 7 v0 v1 (sort 2) (sort 1) (Refl v0 v1))\n"]
	marked := api.Term{Kind: api.Refl, Kids: []api.Term{sort(0), sort(0)}}
	for i, change := range []func(r *Result){
		func(r *Result) { r.Ctx = []api.Entry{{A: variable(0)}} }, func(r *Result) { r.Ctx = nil }, func(r *Result) { r.I = -1 }, func(r *Result) { r.I = 1001 },
		func(r *Result) { r.A = r.H }, func(r *Result) { r.U = r.H }, func(r *Result) { r.B = r.H }, func(r *Result) { r.V = r.H }, func(r *Result) { r.H = marked },
		func(r *Result) { r.A = variable(2) }, func(r *Result) { r.U = variable(2) }, func(r *Result) { r.B = variable(2) }, func(r *Result) { r.V = variable(2) }, func(r *Result) { r.H = variable(2) },
		func(r *Result) { r.H = api.Term{} }, func(r *Result) { r.V = api.Term{} }, func(r *Result) { r.B = api.Term{} }, func(r *Result) { r.Equal = false },
		func(r *Result) { r.Equal, r.B, r.V = false, api.Term{}, api.Term{} }, func(r *Result) { r.Equal, r.B, r.H = false, api.Term{}, api.Term{} }, func(r *Result) { r.Equal, r.H, r.V = false, api.Term{}, api.Term{} },
		func(r *Result) { *r = Result{} },
	} {
		q := r
		change(&q)
		if Right(q) || Text(q) != "" || Verify(q, inf) != api.ErrArg || Verify(q, nan) != api.ErrArg {
			t.Error(i, q)
		}
	}
	if !Right(Result{Ctx: r.Ctx, I: r.I, A: r.A, U: r.U}) {
		t.Error("term")
	}
}

func TestVerify(t *testing.T) {
	for text, want := range map[string]api.Errno{
		"(term () 2 (sort 0) (sort 1))": api.OK, "(term () 3 (sort 0) (sort 1))": api.ErrType, "(term () 2 (sort 0) (sort 2))": api.ErrType,
		"(term (1 (sort 0) 0 v0) 0 v1 v0)": api.OK, "(term (0 (sort 0) 0 v0) 0 v1 v0)": api.ErrType, "(term (1 (sort 0) 1 v0) 1 v1 v0)": api.ErrType, "(term (1 (sort 0) 0 v0) 0 v1 (sort 0))": api.ErrType,
		"(term (1 (sort 0) 0 v0) 0 (refl 0 v0 v1) (eq 0 v0 v1 v1))": api.OK, "(term (1 (sort 0) 0 v0) 0 (refl 0 v0 v0) (eq 0 v0 v1 v1))": api.ErrType,
		"(equal (1 (sort 0) 0 v0) 0 v0 v1 v0 v1 (Refl (Sig X (sort 0) X) (Pair X (sort 0) X v0 v1)))":                                     api.OK,
		"(equal (1 (sort 0) 0 v0 0 v0) 0 v0 v1 v0 v2 (Refl (Sig X (sort 0) X) (Pair X (sort 0) X v0 v1)))":                                api.ErrType,
		"(equal (1 (sort 0) 0 v0 0 v0 0 (eq 0 v0 v1 v2)) 0 v0 v1 v0 v2 (use e2h 0 0 v0 v1 v2 v3))":                                        api.OK,
		"(equal (1 (sort 0) 0 v0 0 v0 0 (eq 0 v0 v1 v2)) 0 v0 v2 v0 v1 (use e2h 0 0 v0 v1 v2 v3))":                                        api.ErrType,
		"(equal (1 (sort 0) 0 v0 0 v0 0 (eq 0 v0 v1 v2)) 1 v0 v1 v0 v2 (use e2h 0 0 v0 v1 v2 v3))":                                        api.ErrType,
		"(equal (1 (sort 0) 0 v0 0 v0 0 (eq 0 v0 v1 v2)) 0 v0 v1 (sort 0) v2 (use e2h 0 0 v0 v1 v2 v3))":                                  api.ErrType,
		"(equal (1 (sort 0) 0 v0 0 v0 0 (eq 0 v0 v1 v2)) 0 (sort 0) v1 v0 v2 (use e2h 0 0 v0 v1 v2 v3))":                                  api.ErrType,
		"(equal (1 (sort 0) 0 v0 0 v0 0 (eq 0 v0 v1 v2)) 0 v0 v1 v0 v2 v3)":                                                               api.ErrType,
		"(term (999 (sort 998)) 1000 (sort 998) (sort 999))":                                                                              api.OK,
		"(equal () 1000 (sort 999) (sort 998) (sort 999) (sort 998) (Refl (Sig X (sort 999) X) (Pair X (sort 999) X (sort 0) (sort 0))))": api.ErrType,
	} {
		r, e, at := Read(text)
		if e != api.OK {
			t.Fatal(text, at)
		}
		for _, fuel := range []float64{100, inf} {
			if e := Verify(r, fuel); e != want {
				t.Error(text, fuel, e)
			}
		}
		for _, fuel := range []float64{nan, -1, 0, 1} {
			if e := Verify(r, fuel); e != want && e != api.ErrFuel {
				t.Error("less", text, fuel, e)
			}
		}
	}
	const half = "(lam 0 0 x (sort 0) (sort 0) (lam 0 0 y (sort 0) (sort 0) (app 0 0 z (sort 0) (sort 0) (app 0 0 z (sort 0) (sort 0) x x) (fst 0 0 z (sort 0) (sort 0) y))))"
	const growing = "(app 0 0 z (sort 0) (sort 0) (app 0 0 z (sort 0) (sort 0) " + half + " " + half + ") (sort 0))"
	for _, a := range []string{growing, "(pair 0 0 x (sort 0) (sort 0) (sort 0) " + growing + ")"} {
		r, e, at := Read("(term () 2 (sort 0) " + a + ")")
		if e != api.OK {
			t.Fatal(at)
		}
		if e := Verify(r, 1e4); e != api.ErrFuel {
			t.Error("a type without a normal form", a, e)
		}
	}
	needs := "(term (1 (sort 0) 0 v0) 0 (refl 0 (app 1 1 x (sort 0) (sort 0) (lam 1 1 x (sort 0) (sort 0) x) v0) v1) (eq 0 v0 v1 v1))"
	r, _, _ := Read(needs)
	if Verify(r, 0) != api.ErrFuel || Verify(r, 4) != api.OK {
		t.Error("fuel", Verify(r, 0), Verify(r, 4))
	}
}

// TestTranslated verifies what the translation makes, and what comes back from its text.
func TestTranslated(t *testing.T) {
	const base = "((sort 0) (sort 0) (eq (var 1) (var 0)) (var 2) (pi (var 2) (sort 0)))"
	for _, d := range []string{
		"(conv (var 1) (reflect (var 2)))", "(refl (conv (var 1) (reflect (var 2))))", "(same (conv (var 1) (reflect (var 2))))", "(xpi (reflect (var 2)) (same (sort 0)))",
		"(xlam (reflect (var 2)) (same (sort 0)) (same (var 4)))", "(lam (var 4) (app (var 1) (conv (var 0) (trans (reflect (var 3)) (same (var 4))))))", "(repl (reflect (var 2)) (refl (var 0)))",
		"(convs (same (var 1)) (reflect (var 2)))", "(app (var 0) (conv (var 1) (reflect (var 2))))",
	} {
		f, e, at, _ := parse.File("(file "+base+" "+d+")", inf, inf)
		if e != api.OK {
			t.Fatal(d, at)
		}
		c, e, _ := trans.Ctx(f.Ctx, inf)
		r := Result{Ctx: c}
		x, e2, _ := trans.Same(c, f.D, inf)
		if r.Equal = e2 == api.OK; r.Equal {
			r.I, r.A, r.U, r.B, r.V, r.H = x.I, x.A, x.U, x.B, x.V, x.H
		} else {
			r.U, r.A, r.I, e2, _ = trans.Term(c, f.D, inf)
		}
		if e != api.OK || e2 != api.OK {
			t.Fatal(d, e, e2)
		}
		back, e, at := Read(Text(r))
		if e != api.OK || !same(back, r) {
			t.Error(d, e, at)
		}
		for _, fuel := range []float64{1e4, 1} {
			if a, b := Verify(r, fuel), Verify(back, fuel); a != b || fuel > 1 && a != api.OK || a == api.ErrType {
				t.Error(d, fuel, a, b)
			}
		}
	}
}
