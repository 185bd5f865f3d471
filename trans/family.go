package trans

import (
	"tranship/api"
	"tranship/cong"
	"tranship/ctx"
	"tranship/het"
	"tranship/lift"
	"tranship/rel"
	"tranship/shape"
	"tranship/subst"
	"tranship/term"
)

// family is what the first two premises of EPi say: in a context c, a = a2 of the level i; under a, b = b2 of the level j.
// The type d is b2 under a2: the variable is moved from a2 to a, unless these are the same.
type family struct {
	i, j    int
	a, a2   api.Term
	b, b2   api.Term
	d       api.Term
	under   []api.Entry // c, and a
	e, back api.Term    // proofs that a and a2 are equal, and that a2 and a are
	types   het.Het     // under a, the equality of b and b2
	env     []het.Het   // in c, x of a, y of a2 and a proof that they are equal: from x to y, moved to a
	fam     cong.Fam
}

// family translates the first two premises of EPi.
func (x *translator) family(c []api.Entry, d api.Deriv) family {
	var f family
	var types het.Het
	first := x.premiseEqual(c, d, 0)
	f.a, f.a2, f.i, types = x.twoTypes(c, first)
	f.under = ctx.Add(c, f.a, f.i)
	second := x.premiseEqual(f.under, d, 1)
	f.b, f.b2, f.j, f.types = x.twoTypes(f.under, second)
	f.e = x.typeProof(types, f.i)
	f.back = x.turned(f.i, bare(f.a), bare(f.a2), f.e)
	f.env = x.fromTo(c, f)
	f.d = x.moved(f, f.b2)
	f.fam = cong.Fam{I: f.i, J: f.j, A: bare(f.a), C: bare(f.a2), B: bare(f.b), D: bare(f.d), E: f.e}
	f.fam.F = x.keep(f.enclosed(x.typeProof(x.over(f, f.types, f.b2), f.j)))
	return f
}

// twoTypes gives the sides of an equality of types a Sort as their type, and returns them with their level and equality.
func (x *translator) twoTypes(c []api.Entry, e Equal) (a, b api.Term, i int, h het.Het) {
	a, i = x.asType(c, typed{e.U, e.A, e.I})
	b, _ = x.asType(c, typed{e.V, e.B, e.I})
	return a, b, i, x.chain(x.bridge(c, e.I, a, e.U), one(e.het()), x.bridge(c, e.I, e.V, b))
}

// fromTo is the environment env of a family.
func (x *translator) fromTo(c []api.Entry, f family) []het.Het {
	env := shape.Ways(c)
	for k, h := range env {
		env[k] = het.Lift(h, 3)
	}
	a, a2 := lift.Lift(bare(f.a), 3, 0), lift.Lift(bare(f.a2), 3, 0)
	h := het.Het{I: f.i, A: a, B: a2, X: variable(2), Y: variable(1), H: variable(0)}
	if f.moves() {
		h = het.Then(h, het.Moved(f.i, a2, a, lift.Lift(f.back, 3, 0), variable(1)))
	}
	x.keep(h.H)
	return append(env, h)
}

// moves tells whether the variable has to be moved.
func (f family) moves() bool {
	return !term.Same(f.a, f.a2)
}

// moved brings a term from under a to under a2.
func (x *translator) moved(f family, t api.Term) api.Term {
	if !f.moves() {
		return t
	}
	v := transport(f.i, lift.Lift(f.a2, 1, 0), lift.Lift(f.a, 1, 0), lift.Lift(f.back, 1, 0), variable(0))
	return x.keep(subst.Put(lift.Lift(t, 1, 1), v))
}

// over extends an equality under a, whose right side is t, to the term t at the moved variable.
func (x *translator) over(f family, h het.Het, t api.Term) het.Het {
	h = het.Lift(h, 2)
	g, _ := rel.Alike(f.env, t, t)
	if term.Same(g.X, g.Y) {
		return h
	}
	g.I = h.I
	x.keep(g.H)
	return x.chain(one(h), one(g))
}

// enclosed makes of a proof in c, x, y and a proof of their equality a function of the latter three.
func (f family) enclosed(p api.Term) api.Term {
	a, a2 := bare(f.a), bare(f.a2)
	h := het.Type(het.Het{I: f.i, A: lift.Lift(a, 2, 0), B: lift.Lift(a2, 2, 0), X: variable(1), Y: variable(0), H: variable(0)})
	for _, t := range []api.Term{h, lift.Lift(a2, 1, 0), a} {
		p = api.Term{Kind: api.PLam, Kids: []api.Term{t, p}}
	}
	return p
}

func (f family) level() int {
	return max(f.i, f.j)
}

func (f family) left(kind int, more ...api.Term) api.Term {
	return marked(kind, f.i, f.j, append([]api.Term{f.a, f.b}, more...)...)
}

func (f family) right(kind int, more ...api.Term) api.Term {
	return marked(kind, f.i, f.j, append([]api.Term{f.a2, f.d}, more...)...)
}

// congruent translates EPi, ESig, ELam and EPair.
func (x *translator) congruent(c []api.Entry, d api.Deriv) Equal {
	f := x.family(c, d)
	m := f.level()
	switch d.Rule {
	case api.EPi:
		return x.types(f, f.left(api.Pi), f.right(api.Pi), cong.Pi(f.fam))
	case api.ESig:
		return x.types(f, f.left(api.Sig), f.right(api.Sig), cong.Sig(f.fam))
	case api.ELam:
		t, u, h := x.bodies(f, x.premiseEqual(f.under, d, 2))
		e := Equal{m, f.left(api.Pi), f.left(api.Lam, t), f.right(api.Pi), f.right(api.Lam, u), h.H}
		return x.back(e, func() api.Term { return cong.Pi(f.fam) })
	}
	u, v := x.premise(c, d, 2), x.premise(c, d, 3)
	left, right, h := x.pairs(c, f, u, v)
	e := Equal{m, f.left(api.Sig), left, f.right(api.Sig), right, h.H}
	return x.back(e, func() api.Term { return cong.Sig(f.fam) })
}

// types is the equality of two types that a proof states.
func (x *translator) types(f family, a, b, p api.Term) Equal {
	m := f.level()
	if term.Same(a, b) {
		return computed(m+1, sort(m), a, b)
	}
	return Equal{m + 1, sort(m), a, sort(m), b, het.Of(m+1, sort(m), bare(a), bare(b), p).H}
}

// bodies makes of an equality under a, of terms of the type b, the bodies of two equal Lams, and proves these equal.
func (x *translator) bodies(f family, e Equal) (t, u api.Term, h het.Het) {
	t = x.as(f.under, f.j, e.U, e.A, f.b)
	before := x.bridge(f.under, f.j, t, e.U)
	var v api.Term
	var after []het.Het
	if term.Same(f.b, f.b2) {
		v = x.as(f.under, f.j, e.V, e.B, f.b2)
		after = x.bridge(f.under, f.j, e.V, v)
	} else {
		p := x.typeProof(x.chain(x.bridge(f.under, f.j+1, e.B, f.b), one(f.types)), f.j)
		v = x.keep(transport(f.j, e.B, f.b2, p, e.V))
		after = one(het.Moved(f.j, bare(e.B), bare(f.b2), p, bare(e.V)))
	}
	u = x.moved(f, v)
	inner := x.over(f, x.chain(before, one(e.het()), after), v)
	k := x.keep(f.enclosed(inner.H))
	h = cong.Lam(f.fam, bare(t), bare(u), k)
	x.keep(h.H)
	return t, u, h
}

// pairs makes of two terms two equal Pairs, and proves these equal.
func (x *translator) pairs(c []api.Entry, f family, p, q typed) (left, right api.Term, h het.Het) {
	u := x.as(c, f.i, p.t, p.a, f.a)
	from := subst.Put(f.b, u)
	v := x.as(c, f.j, q.t, q.a, from)
	u2, first := u, het.Self(f.i, bare(f.a), bare(u))
	if f.moves() {
		u2 = x.keep(transport(f.i, f.a, f.a2, f.e, u))
		first = het.Moved(f.i, bare(f.a), bare(f.a2), f.e, bare(u))
	}
	to := subst.Put(f.d, u2)
	v2, second := v, het.Self(f.j, bare(from), bare(v))
	if !term.Same(from, to) {
		e := f.fam.F
		for _, t := range []api.Term{bare(u), bare(u2), first.H} {
			e = api.Term{Kind: api.PApp, Kids: []api.Term{e, t}}
		}
		v2 = x.keep(transport(f.j, from, to, e, v))
		second = het.Moved(f.j, bare(from), bare(to), e, bare(v))
	}
	h = cong.Pair(f.fam, first, second)
	x.keep(h.H)
	return f.left(api.Pair, u, v), f.right(api.Pair, u2, v2), h
}
