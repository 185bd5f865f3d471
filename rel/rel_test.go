package rel

import (
	"strings"
	"testing"

	"tranship/api"
	"tranship/ctx"
	"tranship/erase"
	"tranship/het"
	"tranship/kernel"
	"tranship/lift"
	"tranship/mark"
	"tranship/naive"
	"tranship/read"
	"tranship/strip"
	"tranship/subst"
	"tranship/term"
	"tranship/tree"
)

// L0 to L3 give proofs, of which nothing is known, that types equal themselves.
var entries = strings.Split(`2 L0 (pi 1 1 X (sort 0) (eq 1 (sort 0) X X))
2 L1 (pi 2 2 X (sort 1) (eq 2 (sort 1) X X))
3 L2 (pi 3 3 X (sort 2) (eq 3 (sort 2) X X))
4 L3 (pi 4 4 X (sort 3) (eq 4 (sort 3) X X))
1 A (sort 0)
0 a A
0 b A
1 F (pi 0 1 x A (sort 0))
0 f (pi 0 0 x A Fx)
0 p (sig 0 0 x A Fx)
0 e (eq 0 A a b)
1 E (eq 1 (sort 0) A (eq 0 A a b))`, "\n")

const terms = `(sort 0)
(sort 1)
a
f
p
(eq 0 A a b)
(pi 0 0 x A Fx)
(sig 0 0 x A Fx)
(sig 0 0 x A (eq 0 A x a))
(pi 0 0 x A (pi 0 0 y Fx Fx))
(lam 0 0 x A Fx (app 0 0 y A Fy f x))
(lam 0 0 x A A a)
(lam 0 1 x A (sort 0) (pi 0 0 y A (eq 0 A x y)))
(lam 1 1 X (sort 0) (sort 0) X)
(app 0 0 x A Fx f a)
(app 0 1 x A (sort 0) F a)
(app 0 0 x A A (lam 0 0 x A A x) a)
(pair 0 0 x A Fx a (app 0 0 x A Fx f a))
(pair 0 0 x A (eq 0 A x a) a (refl 0 A a))
(fst 0 0 x A Fx p)
(snd 0 0 x A Fx p)
(refl 0 A a)
(refl 1 (sort 0) (pi 0 0 x A Fx))
(pi 1 1 X (sort 0) (sort 0))
(pi 1 0 X (sort 0) (pi 0 0 x X A))
(tr 0 A (eq 0 A a b) E a)`

var short = strings.NewReplacer("Fx", "(app 0 1 x A (sort 0) F x)", "Fy", "(app 0 1 x A (sort 0) F y)")

func m(t *testing.T, text string, names []string) api.Term {
	x, e, at := read.Read(short.Replace(text), names, 0, 0)
	if e != api.OK {
		t.Fatal(text, e, at)
	}
	return x
}

func sample(t *testing.T) ([]api.Entry, []string) {
	var c []api.Entry
	var names []string
	for _, l := range entries {
		w := strings.SplitN(l, " ", 3)
		a := m(t, w[2], names)
		stated, i, e := mark.Type(c, a, 100)
		if e != api.OK || stated.Kind != api.Sort {
			t.Fatal(l, e)
		}
		c, names = ctx.Add(c, a, i-1), append(names, w[1])
	}
	return c, names
}

// wrap puts a Tr, by a proof of which nothing is known, around the part of a term where n, counted down, becomes 0.
func wrap(c []api.Entry, t api.Term, n *int) api.Term {
	*n--
	if *n == -1 {
		a, i, e := mark.Type(c, t, 100)
		if e != api.OK || i > 3 || len(c) < 4 {
			return t
		}
		proof := api.Term{Kind: api.PApp, Kids: []api.Term{{Kind: api.Var, I: len(c) - 1 - i}, strip.Strip(a)}}
		return api.Term{Kind: api.Tr, I: i, Kids: []api.Term{a, a, proof, t}}
	}
	kids := append([]api.Term(nil), t.Kids...)
	for k := range kids {
		inner := c
		if term.Binds(t.Kind, k) > 0 {
			inner = ctx.Add(c, kids[0], t.I)
		}
		if t.Kind != api.Tr || k != 2 {
			kids[k] = wrap(inner, kids[k], n)
		}
	}
	t.Kids = kids
	return t
}

// check holds what Alike returns against its promise.
func check(t *testing.T, types []api.Term, env []het.Het, c, d []api.Entry, a, b api.Term) {
	h, ok := Alike(env, a, b)
	if !ok {
		t.Fatal("none", a, b)
	}
	x, ok1 := subst.All(strip.Strip(a), values(env, left))
	y, ok2 := subst.All(strip.Strip(b), values(env, right))
	ta, i, _ := mark.Type(c, a, 1000)
	tb, _, _ := mark.Type(d, b, 1000)
	wantA, ok3 := subst.All(strip.Strip(ta), values(env, left))
	wantB, ok4 := subst.All(strip.Strip(tb), values(env, right))
	if !ok1 || !ok2 || !ok3 || !ok4 || !term.Same(h.X, x) || !term.Same(h.Y, y) || h.I != i {
		t.Fatal("sides", a, b, h)
	}
	if a.Kind != api.Var && !term.Same(h.A, wantA) || b.Kind != api.Var && !term.Same(h.B, wantB) {
		t.Fatal("types", a, b, h)
	}
	if e := kernel.Check(types, h.H, het.Type(h), 1e5); e != api.OK {
		t.Fatal("kernel", e, a, b)
	}
}

// variants are terms of one erasure that have types.
func variants(r *naive.Random, c []api.Entry, x api.Term, n int) []api.Term {
	l := []api.Term{x}
	for try := 0; len(l) < n && try < 60*n; try++ {
		y := l[r.Below(len(l))]
		at := r.Below(term.Size(y))
		z := wrap(c, y, &at)
		if _, _, e := mark.Type(c, z, 1000); e == api.OK && erase.Count(z) > erase.Count(y) && erase.Count(z) < 12 {
			l = append(l, z)
		}
	}
	return l
}

func ways(c []api.Entry) []het.Het {
	var env []het.Het
	for k := range c {
		a, i, _ := ctx.At(c, len(c)-1-k)
		env = append(env, het.Self(i, strip.Strip(a), variable(len(c)-1-k)))
	}
	return env
}

func TestOneContext(t *testing.T) {
	c, names := sample(t)
	r := naive.Random{Seed: 25}
	for _, text := range strings.Split(terms, "\n") {
		l := variants(&r, c, m(t, text, names), 6)
		if len(l) < 3 {
			t.Error("too few", text)
		}
		for _, a := range l {
			for _, b := range l[:3] {
				check(t, ctx.Plain(c), ways(c), c, c, a, b)
			}
		}
	}
}

// TestTwoContexts has other types of the same erasures in the second context.
func TestTwoContexts(t *testing.T) {
	c, names := sample(t)
	r := naive.Random{Seed: 250}
	used := 0
	for range 4 {
		d := otherTypes(&r, c)
		types, env, ok := Pack(c, d)
		if !ok || len(types) != 3*len(c) || len(env) != len(c) || kernel.Ctx(types, 1e4) != api.OK {
			t.Fatal("Pack", ok, kernel.Ctx(types, 1e4))
		}
		checkPack(t, c, d, types, env)
		for _, text := range strings.Split(terms, "\n") {
			x := m(t, text, names)
			for _, b := range variants(&r, d, x, 3) {
				if _, _, e := mark.Type(d, b, 1000); e != api.OK {
					continue
				}
				for _, a := range variants(&r, c, x, 2) {
					used++
					check(t, types, env, c, d, a, b)
				}
			}
		}
	}
	if used < 100 {
		t.Error("too few", used)
	}
}

// otherTypes puts Trs into the types of a context.
func otherTypes(r *naive.Random, c []api.Entry) []api.Entry {
	d := tree.Entries(c)
	for range 100 {
		e := tree.Entries(d)
		k := r.Below(len(e))
		at := r.Below(term.Size(e[k].A))
		if e[k].A = wrap(e[:k], e[k].A, &at); mark.Ctx(e, 1000) == api.OK && erase.Count(e[k].A) < 6 {
			d = e
		}
	}
	return d
}

func checkPack(t *testing.T, c, d []api.Entry, types []api.Term, env []het.Het) {
	var before []het.Het
	for k := range c {
		a, _ := subst.All(strip.Strip(c[k].A), values(before, left))
		b, _ := subst.All(strip.Strip(d[k].A), values(before, right))
		want := []api.Term{a, lift.Lift(b, 1, 0), {Kind: api.PUse, N: 6, I: c[k].I, Kids: []api.Term{lift.Lift(a, 2, 0), lift.Lift(b, 2, 0), variable(1), variable(0)}}}
		for n := range want {
			if !term.Same(types[3*k+n], want[n]) {
				t.Fatal("type", k, n, types[3*k+n])
			}
		}
		for n := range before {
			before[n] = het.Lift(before[n], 3)
		}
		before = append(before, het.Het{I: c[k].I, A: lift.Lift(a, 3, 0), B: lift.Lift(b, 3, 0), X: variable(2), Y: variable(1), H: variable(0)})
	}
	for k, h := range env {
		g := before[k]
		if h.I != g.I || !term.Same(h.A, g.A) || !term.Same(h.B, g.B) || !term.Same(h.X, g.X) || !term.Same(h.Y, g.Y) || !term.Same(h.H, g.H) {
			t.Fatal("environment", k, h)
		}
	}
}

func TestExample(t *testing.T) {
	h, ok := Alike(nil, sort(0), sort(0))
	want := het.Self(2, sort(1), sort(0))
	if !ok || h.I != 2 || !term.Same(h.A, sort(1)) || !term.Same(h.B, sort(1)) || !term.Same(h.X, sort(0)) || !term.Same(h.Y, sort(0)) || !term.Same(h.H, want.H) {
		t.Error(h, ok)
	}
	g := het.Het{I: 3, A: sort(1), B: sort(2), X: sort(4), Y: sort(5), H: sort(6)}
	h, ok = Alike([]het.Het{{I: 1, A: sort(0), B: sort(0), X: sort(0), Y: sort(0), H: sort(0)}, g}, variable(0), variable(0))
	if !ok || h.I != 3 || h.A.I != 1 || h.B.I != 2 || h.X.I != 4 || h.Y.I != 5 || h.H.I != 6 {
		t.Error(h, ok)
	}
}

func TestTurnedRound(t *testing.T) {
	c, names := sample(t)
	r := naive.Random{Seed: 7}
	for _, text := range strings.Split(terms, "\n") {
		l := variants(&r, c, m(t, text, names), 2)
		g, _ := Alike(ways(c), l[0], l[len(l)-1])
		h, _ := Alike(ways(c), l[len(l)-1], l[0])
		if g.I != h.I || !term.Same(g.X, h.Y) || !term.Same(g.Y, h.X) || !term.Same(g.A, h.B) || !term.Same(g.B, h.A) {
			t.Error(text)
		}
	}
}

func TestRefused(t *testing.T) {
	c, names := sample(t)
	env := ways(c)
	a := m(t, "(eq 0 A a b)", names)
	bad := het.Het{I: 999, A: sort(0), B: sort(0), X: sort(0), Y: sort(0), H: sort(0)}
	far := het.Het{I: 0, A: sort(0), B: sort(0), X: variable(1<<31 - 1), Y: variable(1<<31 - 1), H: sort(0)}
	bound := api.Term{Kind: api.Pi, Kids: []api.Term{sort(0), variable(1)}}
	for i, r := range []struct {
		env  []het.Het
		a, b api.Term
	}{
		{env, a, m(t, "(eq 0 A b b)", names)}, {env, a, strip.Strip(a)}, {env, a, api.Term{}}, {env[1:], variable(11), variable(11)}, {nil, variable(0), variable(0)}, {[]het.Het{bad}, sort(0), sort(0)}, {[]het.Het{{}}, sort(0), sort(0)},
		{nil, sort(997), sort(997)}, {nil, api.Term{Kind: api.Pi, I: 997, Kids: []api.Term{sort(0), sort(0)}}, api.Term{Kind: api.Pi, I: 997, Kids: []api.Term{sort(0), sort(0)}}},
		{[]het.Het{far}, bound, bound},
	} {
		if h, ok := Alike(r.env, r.a, r.b); ok || h.I != 0 || h.X.Kind != 0 || h.H.Kind != 0 {
			t.Error(i, h)
		}
	}
	if _, ok := Alike(nil, sort(996), sort(996)); !ok {
		t.Error("996")
	}
	if _, ok := Alike([]het.Het{far}, variable(0), variable(0)); !ok {
		t.Error("far")
	}
	high := api.Term{Kind: api.Tr, Kids: []api.Term{sort(0), sort(0), sort(997), sort(0)}}
	if _, ok := Alike(nil, high, sort(0)); ok {
		t.Error("level in a proof")
	}
	for i, p := range [][2][]api.Entry{
		{c, c[1:]}, {c[:3], c[:2]}, {{{A: sort(0), I: 1}}, {{A: sort(1), I: 1}}}, {{{A: sort(0), I: 1}}, {{A: sort(0), I: 2}}}, {{{A: variable(0)}}, {{A: variable(0)}}},
		{{{A: sort(997), I: 1}}, {{A: sort(997), I: 1}}}, {{{A: sort(0), I: 997}}, {{A: sort(0), I: 997}}}, {{{A: sort(0), I: 1}}, {{A: high, I: 1}}}, {{{A: high, I: 1}}, {{A: sort(0), I: 1}}},
	} {
		if types, env, ok := Pack(p[0], p[1]); ok || len(types) > 0 || len(env) > 0 {
			t.Error("Pack", i)
		}
	}
	if types, env, ok := Pack(nil, nil); !ok || len(types) > 0 || len(env) > 0 {
		t.Error("empty")
	}
	if _, _, ok := Pack([]api.Entry{{A: sort(996), I: 996}}, []api.Entry{{A: sort(996), I: 996}}); !ok {
		t.Error("996")
	}
}

// TestWrongMarks has terms that have no types: there has to be an answer all the same.
func TestWrongMarks(t *testing.T) {
	r := naive.Random{Seed: 99}
	var make func(deep, free int) api.Term
	make = func(deep, free int) api.Term {
		if deep == 0 {
			if free > 0 {
				return variable(r.Below(free))
			}
			return sort(r.Below(5))
		}
		x := api.Term{Kind: 3 + r.Below(10), I: r.Below(4)}
		if x.Kind < api.Eq {
			x.J = r.Below(4)
		}
		for k := range term.Kids(x.Kind, 0) {
			if x.Kind == api.Tr && k == 2 {
				x.Kids = append(x.Kids, r.Plain(2, free))
				continue
			}
			x.Kids = append(x.Kids, make(deep-1, free+term.Binds(x.Kind, k)))
		}
		return x
	}
	env := []het.Het{{I: 4, A: sort(0), B: sort(1), X: sort(2), Y: sort(3), H: sort(4)}, {I: 0, A: sort(0), B: variable(3), X: variable(1), Y: variable(1), H: variable(1)}}
	for range 300 {
		a := make(3, 2)
		b := wrapped(&r, a)
		h, ok := Alike(env, a, b)
		if !ok || !term.Plain(h.H) || !term.Plain(het.Type(h)) {
			t.Fatal(a, b, h, ok)
		}
	}
}

// wrapped puts Trs without sense around parts of a term.
func wrapped(r *naive.Random, x api.Term) api.Term {
	x = tree.Copy(x)
	for k := range x.Kids {
		if x.Kind != api.Tr || k != 2 {
			x.Kids[k] = wrapped(r, x.Kids[k])
		}
	}
	if r.Below(4) == 0 {
		return api.Term{Kind: api.Tr, I: r.Below(4), Kids: []api.Term{sort(1), sort(2), sort(3), x}}
	}
	return x
}
