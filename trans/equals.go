package trans

import (
	"tranship/api"
	"tranship/ctx"
	"tranship/het"
	"tranship/lift"
	"tranship/subst"
	"tranship/term"
)

// equal translates a derivation of an equality.
func (x *translator) equal(c []api.Entry, d api.Deriv) Equal {
	e := x.equalRule(c, d)
	if e.H.Kind == 0 {
		// This happens only where the levels leave no room for a proof.
		e.H = refl(bare(e.A), bare(e.U))
	}
	for _, t := range []api.Term{e.A, e.U, e.B, e.V, e.H} {
		x.keep(t)
	}
	return e
}

func (x *translator) equalRule(c []api.Entry, d api.Deriv) Equal {
	switch d.Rule {
	case api.ESame:
		p := x.premise(c, d, 0)
		return computed(p.i, p.a, p.t, p.t)
	case api.ESym:
		e := x.premiseEqual(c, d, 0)
		return Equal{e.I, e.B, e.V, e.A, e.U, het.Turn(e.het()).H}
	case api.ETrans:
		e, f := x.premiseEqual(c, d, 0), x.premiseEqual(c, d, 1)
		h := x.chain(one(e.het()), x.bridge(c, e.I, e.V, f.U), one(f.het()))
		return Equal{e.I, e.A, e.U, f.B, f.V, h.H}
	case api.EConv:
		return x.converted(c, d)
	case api.EReflect:
		p, q := x.asHead(c, x.premise(c, d, 0))
		a, u, v := q.Kids[0], q.Kids[1], q.Kids[2]
		return Equal{q.I, a, u, a, v, het.Of(q.I, bare(a), bare(u), bare(v), bare(p)).H}
	case api.EIrr:
		p, a := x.asHead(c, x.premise(c, d, 0))
		r := x.premise(c, d, 1)
		q := x.as(c, a.I, r.t, r.a, a)
		e := use(irrelevance, a.I, 0, bare(a.Kids[0]), bare(a.Kids[1]), bare(a.Kids[2]), bare(p), bare(q))
		return Equal{a.I, a, p, a, q, het.Of(a.I, bare(a), bare(p), bare(q), e).H}
	case api.ERepl:
		return x.replaced(c, d)
	case api.EPi, api.ESig, api.ELam, api.EPair:
		return x.congruent(c, d)
	}
	return x.reduced(c, d)
}

// computed is an equality of two terms that the kernel computes to the same.
func computed(i int, a, u, v api.Term) Equal {
	return Equal{i, a, u, a, v, het.Self(i, bare(a), bare(v)).H}
}

// reduced translates the rules whose two sides compute to the same.
func (x *translator) reduced(c []api.Entry, d api.Deriv) Equal {
	switch d.Rule {
	case api.EBeta:
		u := x.premise(c, d, 0)
		t := x.premise(ctx.Add(c, u.a, u.i), d, 1)
		f := marked(api.Lam, u.i, t.i, u.a, t.a, t.t)
		return computed(t.i, subst.Put(t.a, u.t), marked(api.App, u.i, t.i, u.a, t.a, f, u.t), subst.Put(t.t, u.t))
	case api.EFirst:
		p := x.paired(c, d)
		return computed(p.i, p.a, p.make(api.Fst, p.pair()), p.u)
	case api.ESecond:
		p := x.paired(c, d)
		return computed(p.j, subst.Put(p.b, p.u), p.make(api.Snd, p.pair()), p.v)
	case api.EEta:
		t, f := x.asHead(c, x.premise(c, d, 0))
		a, b := f.Kids[0], f.Kids[1]
		body := marked(api.App, f.I, f.J, lift.Lift(a, 1, 0), lift.Lift(b, 1, 1), lift.Lift(t, 1, 0), variable(0))
		e := computed(max(f.I, f.J), f, marked(api.Lam, f.I, f.J, a, b, body), t)
		e.U, e.V = e.V, e.U
		return e
	}
	// ESurj.
	p, s := x.asHead(c, x.premise(c, d, 0))
	k := pairing{i: s.I, j: s.J, a: s.Kids[0], b: s.Kids[1]}
	k.u, k.v = k.make(api.Fst, p), k.make(api.Snd, p)
	e := computed(k.level(), s, k.pair(), p)
	e.U, e.V = e.V, e.U
	return e
}

// converted translates EConv: both sides are moved to the other type.
func (x *translator) converted(c []api.Entry, d api.Deriv) Equal {
	e, f := x.premiseEqual(c, d, 0), x.premiseEqual(c, d, 1)
	i := e.I
	b, _ := x.asType(c, typed{f.V, f.B, f.I})
	p := x.across(c, i, e.A, f, b)
	q := p
	if !term.Same(e.A, e.B) {
		q = x.across(c, i, e.B, f, b)
	}
	u, v := transport(i, e.A, b, p, e.U), transport(i, e.B, b, q, e.V)
	before := het.Turn(het.Moved(i, bare(e.A), bare(b), p, bare(e.U)))
	after := het.Moved(i, bare(e.B), bare(b), q, bare(e.V))
	return Equal{i, b, u, b, v, x.chain(one(before), one(e.het()), one(after)).H}
}

// replaced translates ERepl: the right side is brought back to the type of the left one.
func (x *translator) replaced(c []api.Entry, d api.Deriv) Equal {
	e := x.premiseEqual(c, d, 0)
	i, a, u := e.I, e.A, e.U
	v := x.as(c, i, e.V, e.B, a)
	proof := x.keep(het.Eq(x.chain(one(e.het()), x.bridge(c, i, e.V, v))))
	t := x.premise(ctx.Add(c, a, i), d, 1)
	from, to := subst.Put(t.a, u), subst.Put(t.a, v)
	left, right := subst.Put(t.t, u), subst.Put(t.t, v)
	lam := func(b api.Term) api.Term {
		return api.Term{Kind: api.PLam, Kids: []api.Term{bare(a), bare(b)}}
	}
	h := use(replacing, i, t.i, bare(a), bare(u), bare(v), proof, lam(t.a), lam(t.t))
	return x.back(Equal{t.i, from, left, to, right, x.keep(h)}, func() api.Term {
		return use(ofTypes, t.i, 0, bare(from), bare(to), bare(left), bare(right), h)
	})
}

// back brings the right side of an equality to the type of the left one, by a proof that the types are equal.
func (x *translator) back(e Equal, proof func() api.Term) Equal {
	if term.Same(e.A, e.B) {
		return e
	}
	a, b := bare(e.A), bare(e.B)
	p := x.turned(e.I, a, b, x.keep(proof()))
	h := x.chain(one(e.het()), one(het.Moved(e.I, b, a, p, bare(e.V))))
	return Equal{e.I, e.A, e.U, e.A, transport(e.I, e.B, e.A, p, e.V), h.H}
}
