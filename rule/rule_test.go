package rule

import (
	"strings"
	"testing"

	"tranship/api"
	"tranship/ctx"
	"tranship/deriv"
	"tranship/read"
	"tranship/term"
)

// The context of the tests: a type, an element of it, a family over it, a function, a pair and an equality.
func sample(t *testing.T) []api.Entry {
	var c []api.Entry
	for _, l := range []string{"1 A (sort 0)", "0 a A", "1 F (pi 0 1 x A (sort 0))", "0 f (pi 0 0 x A (app 0 1 x A (sort 0) F x))", "0 p (sig 0 0 x A (app 0 1 x A (sort 0) F x))", "0 e (eq 0 A a a)"} {
		w := strings.SplitN(l, " ", 3)
		c = ctx.Add(c, m(t, w[2], len(c)), int(w[0][0]-'0'))
	}
	if !pure(c) {
		t.Fatal("context")
	}
	return c
}

// m reads a term in the first n entries of the context, and under a binder x.
func m(t *testing.T, text string, n int) api.Term {
	names := []string{"A", "a", "F", "f", "p", "e", "x"}[:n]
	text = strings.NewReplacer("Fx", "(app 0 1 x A (sort 0) F x)", "Fa", "(app 0 1 x A (sort 0) F a)").Replace(text)
	x, e, at := read.Read(text, names, 0, 0)
	if e != api.OK {
		t.Fatal(text, e, at)
	}
	return x
}

// judg reads "U : A @ i" or "U = V : A @ i"; one with a star is under the binder.
func judg(t *testing.T, text string) api.Judg {
	n := 6
	if strings.HasPrefix(text, "*") {
		n, text = 7, text[1:]
	}
	var j api.Judg
	text, level, _ := strings.Cut(text, " @ ")
	for _, d := range level {
		j.I = 10*j.I + int(d-'0')
	}
	sides, a, _ := strings.Cut(text, " : ")
	j.A = m(t, a, n)
	u, v, equal := strings.Cut(sides, " = ")
	j.U, j.Equal = m(t, u, n), equal
	if equal {
		j.V = m(t, v, n)
	}
	return j
}

// Each row: the rule, its premises, and behind the arrow its conclusion, or nothing if there is none.
const rows = `
sort > (sort 3) : (sort 4) @ 5
var > e : (eq 0 A a a) @ 0
pi | A : (sort 0) @ 1 | *Fx : (sort 0) @ 1 > (pi 0 0 x A Fx) : (sort 0) @ 1
pi | A : (sort 0) @ 1 | *(sort 4) : (sort 5) @ 6 > (pi 0 5 x A (sort 4)) : (sort 5) @ 6
pi | (sort 4) : (sort 5) @ 6 | *A : (sort 0) @ 1 > (pi 5 0 x (sort 4) A) : (sort 5) @ 6
pi | A = A : (sort 0) @ 1 | *Fx : (sort 0) @ 1 >
pi | A : (sort 0) @ 1 | *Fx = Fx : (sort 0) @ 1 >
pi | A : (sort 0) @ 2 | *Fx : (sort 0) @ 1 >
pi | A : (sort 0) @ 1 | *Fx : (sort 0) @ 0 >
pi | a : A @ 0 | *Fx : (sort 0) @ 1 >
pi | A : (sort 0) @ 1 | *x : A @ 1 >
sig | A : (sort 0) @ 1 | *Fx : (sort 0) @ 1 > (sig 0 0 x A Fx) : (sort 0) @ 1
sig | (sort 4) : (sort 5) @ 6 | *A : (sort 0) @ 1 > (sig 5 0 x (sort 4) A) : (sort 5) @ 6
sig | A : (sort 1) @ 1 | *Fx : (sort 0) @ 1 >
sig | A : (sort 0) @ 1 | *Fx : (sort 0) @ 2 >
lam | A : (sort 0) @ 1 | *(app 0 0 x A Fx f x) : Fx @ 0 > (lam 0 0 x A Fx (app 0 0 x A Fx f x)) : (pi 0 0 x A Fx) @ 0
lam | A : (sort 0) @ 1 | *Fx : (sort 0) @ 1 > (lam 0 1 x A (sort 0) Fx) : (pi 0 1 x A (sort 0)) @ 1
lam | (sort 0) : (sort 1) @ 2 | *a : A @ 0 > (lam 1 0 x (sort 0) A a) : (pi 1 0 x (sort 0) A) @ 1
lam | a : A @ 0 | *x : A @ 0 >
lam | A : (sort 0) @ 1 | *x = x : A @ 0 >
lam | A = A : (sort 0) @ 1 | *x : A @ 0 >
app | f : (pi 0 0 x A Fx) @ 0 | a : A @ 0 > (app 0 0 x A Fx f a) : Fa @ 0
app | F : (pi 0 1 x A (sort 0)) @ 1 | a : A @ 0 > Fa : (sort 0) @ 1
app | F : (pi 0 1 x A (sort 0)) @ 0 | a : A @ 0 >
app | F : (pi 0 1 x A (sort 0)) @ 1 | a : A @ 1 >
app | F : (pi 0 1 x A (sort 0)) @ 1 | a : (sort 0) @ 0 >
app | F = F : (pi 0 1 x A (sort 0)) @ 1 | a : A @ 0 >
app | F : (pi 0 1 x A (sort 0)) @ 1 | a = a : A @ 0 >
app | F : (sig 0 1 x A (sort 0)) @ 1 | a : A @ 0 >
pair | a : A @ 0 | *Fx : (sort 0) @ 1 | (app 0 0 x A Fx f a) : Fa @ 0 > (pair 0 0 x A Fx a (app 0 0 x A Fx f a)) : (sig 0 0 x A Fx) @ 0
pair | a : A @ 0 | *(sort 0) : (sort 1) @ 2 | A : (sort 0) @ 1 > (pair 0 1 x A (sort 0) a A) : (sig 0 1 x A (sort 0)) @ 1
pair | a : A @ 0 | *Fx : (sort 0) @ 1 | a : A @ 0 >
pair | a : A @ 0 | *Fx : (sort 0) @ 1 | a : Fa @ 1 >
pair | a : A @ 0 | *Fx : (sort 0) @ 2 | a : Fa @ 0 >
pair | a = a : A @ 0 | *Fx : (sort 0) @ 1 | a : Fa @ 0 >
pair | a : A @ 0 | *Fx = Fx : (sort 0) @ 1 | a : Fa @ 0 >
pair | a : A @ 0 | *Fx : (sort 0) @ 1 | a = a : Fa @ 0 >
fst | p : (sig 0 0 x A Fx) @ 0 > (fst 0 0 x A Fx p) : A @ 0
fst | p : (sig 0 3 x A (sort 2)) @ 3 > (fst 0 3 x A (sort 2) p) : A @ 0
fst | p : (sig 0 0 x A Fx) @ 1 >
fst | p = p : (sig 0 0 x A Fx) @ 0 >
fst | p : (pi 0 0 x A Fx) @ 0 >
snd | p : (sig 0 0 x A Fx) @ 0 > (snd 0 0 x A Fx p) : (app 0 1 x A (sort 0) F (fst 0 0 x A Fx p)) @ 0
snd | p : (sig 0 3 x A (sort 2)) @ 3 > (snd 0 3 x A (sort 2) p) : (sort 2) @ 3
snd | p : (sig 0 0 x A Fx) @ 1 >
snd | p = p : (sig 0 0 x A Fx) @ 0 >
eq | a : A @ 0 | a : A @ 0 > (eq 0 A a a) : (sort 0) @ 1
eq | A : (sort 0) @ 1 | Fa : (sort 0) @ 1 > (eq 1 (sort 0) A Fa) : (sort 1) @ 2
eq | a : A @ 1000 | a : A @ 1000 >
eq | a : A @ 999 | a : A @ 999 > (eq 999 A a a) : (sort 999) @ 1000
eq | a : A @ 0 | a : A @ 1 >
eq | a : A @ 0 | a : Fa @ 0 >
eq | a = a : A @ 0 | a : A @ 0 >
eq | a : A @ 0 | a = a : A @ 0 >
refl | a : A @ 4 > (refl 4 A a) : (eq 4 A a a) @ 4
refl | a = a : A @ 0 >
conv | a : A @ 0 | A = Fa : (sort 0) @ 1 > a : Fa @ 0
conv | a : A @ 0 | A : (sort 0) @ 1 >
conv | a : A @ 0 | Fa = A : (sort 0) @ 1 >
conv | a : A @ 1 | A = Fa : (sort 0) @ 1 >
conv | a : A @ 0 | A = Fa : (sort 0) @ 2 >
conv | a = a : A @ 0 | A = Fa : (sort 0) @ 1 >
conv | a : A @ 0 | A = Fa : a @ 1 >
same | a : A @ 3 > a = a : A @ 3
same | a = a : A @ 3 >
sym | a = f : A @ 3 > f = a : A @ 3
sym | a : A @ 3 >
trans | a = f : A @ 3 | f = p : A @ 3 > a = p : A @ 3
trans | a = f : A @ 3 | p = f : A @ 3 >
trans | a = f : A @ 3 | f = p : A @ 2 >
trans | a = f : A @ 3 | f = p : F @ 3 >
trans | a : A @ 3 | a = p : A @ 3 >
trans | a = a : A @ 3 | a : A @ 3 >
convs | a = f : A @ 0 | A = Fa : (sort 0) @ 1 > a = f : Fa @ 0
convs | a : A @ 0 | A = Fa : (sort 0) @ 1 >
convs | a = f : A @ 0 | Fa = A : (sort 0) @ 1 >
convs | a = f : A @ 1 | A = Fa : (sort 0) @ 1 >
convs | a = f : A @ 0 | A : (sort 0) @ 1 >
reflect | e : (eq 0 A a p) @ 0 > a = p : A @ 0
reflect | e : (eq 0 A a a) @ 1 >
reflect | e = e : (eq 0 A a a) @ 0 >
reflect | e : (refl 0 A a) @ 0 >
beta | a : A @ 0 | *(app 0 0 x A Fx f x) : Fx @ 2 > (app 0 2 x A Fx (lam 0 2 x A Fx (app 0 0 x A Fx f x)) a) = (app 0 0 x A Fx f a) : Fa @ 2
beta | a = a : A @ 0 | *x : A @ 0 >
beta | a : A @ 0 | *x = x : A @ 0 >
first | a : A @ 0 | *Fx : (sort 0) @ 1 | f : Fa @ 0 > (fst 0 0 x A Fx (pair 0 0 x A Fx a f)) = a : A @ 0
first | a : A @ 0 | *Fx : (sort 0) @ 1 | f : A @ 0 >
second | a : A @ 0 | *Fx : (sort 0) @ 1 | f : Fa @ 0 > (snd 0 0 x A Fx (pair 0 0 x A Fx a f)) = f : Fa @ 0
second | a : A @ 0 | *Fx : (sort 0) @ 1 | f : Fa @ 1 >
eta | f : (pi 0 0 x A Fx) @ 0 > f = (lam 0 0 x A Fx (app 0 0 y A (app 0 1 x A (sort 0) F y) f x)) : (pi 0 0 x A Fx) @ 0
eta | f : (pi 0 0 x A Fx) @ 1 >
eta | f = f : (pi 0 0 x A Fx) @ 0 >
eta | f : (sig 0 0 x A Fx) @ 0 >
surj | p : (sig 0 0 x A Fx) @ 0 > p = (pair 0 0 x A Fx (fst 0 0 x A Fx p) (snd 0 0 x A Fx p)) : (sig 0 0 x A Fx) @ 0
surj | p : (pi 0 0 x A Fx) @ 0 >
surj | p : (sig 0 0 x A Fx) @ 1 >
repl | a = f : A @ 0 | *(refl 0 A x) : (eq 0 A x x) @ 2 > (refl 0 A a) = (refl 0 A f) : (eq 0 A a a) @ 2
repl | a : A @ 0 | *x : A @ 2 >
repl | a = f : A @ 0 | *x = x : A @ 2 >
irr | e : (eq 0 A a f) @ 0 | p : (eq 0 A a f) @ 0 > e = p : (eq 0 A a f) @ 0
irr | e : (eq 0 A a f) @ 1 | p : (eq 0 A a f) @ 1 >
irr | e : (eq 0 A a f) @ 0 | p : (eq 0 A a a) @ 0 >
irr | e : (eq 0 A a f) @ 0 | p : (eq 0 A a f) @ 1 >
irr | e = e : (eq 0 A a f) @ 0 | p : (eq 0 A a f) @ 0 >
irr | e : (eq 0 A a f) @ 0 | p = p : (eq 0 A a f) @ 0 >
irr | e : A @ 0 | p : A @ 0 >
xpi | A = a : (sort 0) @ 1 | *Fx = x : (sort 2) @ 3 > (pi 0 2 x A Fx) = (pi 0 2 x a x) : (sort 2) @ 3
xpi | A : (sort 0) @ 1 | *Fx = x : (sort 2) @ 3 >
xpi | A = a : (sort 0) @ 1 | *Fx : (sort 2) @ 3 >
xpi | A = a : (sort 0) @ 0 | *Fx = x : (sort 2) @ 3 >
xpi | A = a : (sort 0) @ 1 | *Fx = x : (sort 2) @ 2 >
xsig | A = a : (sort 3) @ 4 | *Fx = x : (sort 2) @ 3 > (sig 3 2 x A Fx) = (sig 3 2 x a x) : (sort 3) @ 4
xsig | A = a : A @ 4 | *Fx = x : (sort 2) @ 3 >
xlam | A = a : (sort 0) @ 1 | *Fx = x : (sort 2) @ 3 | *f = x : Fx @ 2 > (lam 0 2 x A Fx f) = (lam 0 2 x a x x) : (pi 0 2 x A Fx) @ 2
xlam | A = a : (sort 0) @ 1 | *Fx = x : (sort 2) @ 3 | *f : Fx @ 2 >
xlam | A = a : (sort 0) @ 1 | *Fx = x : (sort 2) @ 3 | *f = x : Fx @ 1 >
xlam | A = a : (sort 0) @ 1 | *Fx = x : (sort 2) @ 3 | *f = x : x @ 2 >
xlam | A = a : (sort 0) @ 1 | *Fx : (sort 2) @ 3 | *f = x : Fx @ 2 >
xpair | A = f : (sort 0) @ 1 | *Fx = x : (sort 2) @ 3 | a : A @ 0 | p : Fa @ 2 > (pair 0 2 x A Fx a p) = (pair 0 2 x f x a p) : (sig 0 2 x A Fx) @ 2
xpair | A = f : (sort 0) @ 1 | *Fx = x : (sort 2) @ 3 | a : f @ 0 | p : Fa @ 2 >
xpair | A = f : (sort 0) @ 1 | *Fx = x : (sort 2) @ 3 | a : A @ 1 | p : Fa @ 2 >
xpair | A = f : (sort 0) @ 1 | *Fx = x : (sort 2) @ 3 | a : A @ 0 | p : a @ 2 >
xpair | A = f : (sort 0) @ 1 | *Fx = x : (sort 2) @ 3 | a : A @ 0 | p : Fa @ 1 >
xpair | A = f : (sort 0) @ 1 | *Fx = x : (sort 2) @ 3 | a = a : A @ 0 | p : Fa @ 2 >
xpair | A = f : (sort 0) @ 1 | *Fx = x : (sort 2) @ 3 | a : A @ 0 | p = p : Fa @ 2 >
xpair | A : (sort 0) @ 1 | *Fx = x : (sort 2) @ 3 | a : A @ 0 | p : Fa @ 2 >
`

// row reads a row of the table.
func row(t *testing.T, line string) (rule, i int, on []api.Judg, want api.Judg, ok bool) {
	left, right, _ := strings.Cut(line, " >")
	parts := strings.Split(left, " | ")
	rule = deriv.Rule(parts[0])
	for _, p := range parts[1:] {
		on = append(on, judg(t, p))
	}
	if rule == api.DSort {
		i = 3
	}
	if right = strings.TrimSpace(right); right != "" {
		want, ok = judg(t, right), true
	}
	return
}

func TestRows(t *testing.T) {
	c := sample(t)
	for _, line := range strings.Split(strings.TrimSpace(rows), "\n") {
		rule, i, on, want, ok := row(t, line)
		got, gotOK := Of(c, rule, i, on)
		if gotOK != ok || !ctx.SameJudg(got, want) {
			t.Errorf("%s: %v %v", line, got, gotOK)
		}
		if ok && !right(got, len(c)) {
			t.Error("not right", line)
		}
		if !ok {
			continue
		}
		if rule > api.DVar {
			if again, ok := Of(c, rule, 77, on); !ok || !ctx.SameJudg(again, want) {
				t.Error("the number", line)
			}
		}
		checkBroken(t, c, rule, i, on, line)
	}
}

// checkBroken hands in what makes no right judgments of premises that are fine.
func checkBroken(t *testing.T, c []api.Entry, rule, i int, on []api.Judg, line string) {
	if _, ok := Of(c, rule, i, append(on[:len(on):len(on)], api.Judg{})); ok {
		t.Error("one more", line)
	}
	for k := range on {
		n := len(c)
		if deriv.Inner(rule, k) {
			n++
		}
		for what, change := range map[string]func(j *api.Judg){
			"U":    func(j *api.Judg) { j.U = api.Term{Kind: api.PFst, Kids: []api.Term{j.U}} },
			"A":    func(j *api.Judg) { j.A = api.Term{} },
			"V":    func(j *api.Judg) { j.V = api.Term{I: 1} },
			"I":    func(j *api.Judg) { j.I = -1 },
			"J":    func(j *api.Judg) { j.I = 1001 },
			"free": func(j *api.Judg) { j.U = api.Term{Kind: api.Var, I: n} },
			"Tr":   func(j *api.Judg) { j.U = api.Term{Kind: api.Tr, Kids: []api.Term{j.U, j.U, {Kind: api.Var}, j.U}} },
		} {
			l := append([]api.Judg(nil), on...)
			change(&l[k])
			if got, ok := Of(c, rule, i, l); ok || !ctx.SameJudg(got, api.Judg{}) {
				t.Error(what, k, line)
			}
		}
		if _, ok := Of(c, rule, i, on[:k]); ok {
			t.Error("one less", line)
		}
	}
}

func TestNumbersOfRules(t *testing.T) {
	c := sample(t)
	for i, want := range map[int]bool{-1: false, 0: true, 900: true, 901: false, 1 << 62: false} {
		if j, ok := Of(nil, api.DSort, i, nil); ok != want || ok && (j.U.I != i || j.A.I != i+1 || j.I != i+2) {
			t.Error("sort", i, j)
		}
	}
	for i := -1; i < 8; i++ {
		j, ok := Of(c, api.DVar, i, nil)
		a, level, at := ctx.At(c, i)
		if ok != at || ok && (!term.Same(j.A, a) || j.I != level || j.U.I != i || j.U.Kind != api.Var) {
			t.Error("var", i, j)
		}
	}
	for _, rule := range []int{-1, 0, 29} {
		if _, ok := Of(c, rule, 0, nil); ok {
			t.Error(rule)
		}
	}
}

func TestContexts(t *testing.T) {
	tr := api.Term{Kind: api.Tr, Kids: []api.Term{sort(0), sort(0), sort(0), sort(0)}}
	for i, c := range [][]api.Entry{{{A: tr, I: 1}}, {{A: api.Term{Kind: api.Var}}}, {{A: sort(0), I: 1001}}, {{}}, {{A: api.Term{Kind: api.PFst, Kids: []api.Term{sort(0)}}}}} {
		if _, ok := Of(c, api.DSort, 0, nil); ok {
			t.Error(i)
		}
		if _, ok := Premise(c, api.ESame, 0, nil); ok {
			t.Error(i)
		}
	}
}

func TestPremise(t *testing.T) {
	c := sample(t)
	types, terms := judg(t, "A : (sort 0) @ 1"), judg(t, "a : A @ 0")
	alikeTypes, alikeTerms := judg(t, "A = Fa : (sort 0) @ 1"), judg(t, "a = a : A @ 3")
	for rule := -1; rule < 30; rule++ {
		for kid := -1; kid < 5; kid++ {
			for k, first := range []api.Judg{types, terms, alikeTypes, alikeTerms} {
				want, ok := c, kid >= 0 && kid < deriv.Kids(rule)
				if deriv.Inner(rule, kid) {
					want = ctx.Add(c, first.A, first.I)
					switch rule {
					case api.DPi, api.DSig, api.DLam:
						want, ok = ctx.Add(c, first.U, 0), k == 0
					case api.EPi, api.ESig, api.ELam, api.EPair:
						want, ok = ctx.Add(c, first.U, 0), k == 2
					case api.ERepl:
						ok = k >= 2
					default:
						ok = k < 2
					}
				}
				got, gotOK := Premise(c, rule, kid, []api.Judg{first, {}, {I: -4}})
				if gotOK != ok || ok && !ctx.Same(got, want) || !ok && len(got) > 0 {
					t.Error(rule, kid, k, got, gotOK)
				}
			}
			if _, ok := Premise(c, rule, kid, nil); ok != (kid >= 0 && kid < deriv.Kids(rule) && !deriv.Inner(rule, kid)) {
				t.Error("none", rule, kid)
			}
		}
	}
	for i, j := range []api.Judg{judg(t, "A : (sort 0) @ 2"), {U: sort(0), A: sort(0), I: 1, V: sort(0)}, {U: api.Term{Kind: api.Var, I: 6}, A: sort(0), I: 1}, {}} {
		if _, ok := Premise(c, api.DPi, 1, []api.Judg{j}); ok {
			t.Error("no type", i)
		}
	}
	if _, ok := Premise(c, api.DPair, 1, []api.Judg{{U: sort(0), A: sort(1), I: 1001}}); ok {
		t.Error("level")
	}
}

func TestResultsAreNew(t *testing.T) {
	c := sample(t)
	on := []api.Judg{judg(t, "f : (pi 0 0 x A Fx) @ 0"), judg(t, "a : A @ 0")}
	j, _ := Of(c, api.DApp, 0, on)
	d, _ := Premise(c, api.ESame, 0, nil)
	on[0].A.Kids[1].Kids[0] = sort(9)
	c[3].A.Kids[0] = sort(9)
	if !ctx.SameJudg(j, judg(t, "(app 0 0 x A Fx f a) : Fa @ 0")) || d[3].A.Kids[0].Kind != api.Var {
		t.Error("shared")
	}
}
