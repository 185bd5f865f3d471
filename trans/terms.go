package trans

import (
	"tranship/api"
	"tranship/ctx"
	"tranship/subst"
)

// term translates a derivation of a judgment that is no equality.
func (x *translator) term(c []api.Entry, d api.Deriv) typed {
	r := x.rule(c, d)
	x.keep(r.t)
	x.keep(r.a)
	return r
}

func (x *translator) rule(c []api.Entry, d api.Deriv) typed {
	switch d.Rule {
	case api.DSort:
		return typed{sort(d.I), sort(d.I + 1), d.I + 2}
	case api.DVar:
		a, i, _ := ctx.At(c, d.I)
		return typed{variable(d.I), a, i}
	case api.DPi:
		return x.formed(c, d, api.Pi)
	case api.DSig:
		return x.formed(c, d, api.Sig)
	case api.DLam:
		a, i := x.asType(c, x.premise(c, d, 0))
		t := x.premise(ctx.Add(c, a, i), d, 1)
		return typed{marked(api.Lam, i, t.i, a, t.a, t.t), marked(api.Pi, i, t.i, a, t.a), max(i, t.i)}
	case api.DApp:
		t, f := x.asHead(c, x.premise(c, d, 0))
		u := x.premise(c, d, 1)
		v := x.as(c, f.I, u.t, u.a, f.Kids[0])
		return typed{marked(api.App, f.I, f.J, f.Kids[0], f.Kids[1], t, v), subst.Put(f.Kids[1], v), f.J}
	case api.DPair:
		p := x.paired(c, d)
		return typed{p.pair(), p.make(api.Sig), p.level()}
	case api.DFst:
		p, s := x.asHead(c, x.premise(c, d, 0))
		return typed{marked(api.Fst, s.I, s.J, s.Kids[0], s.Kids[1], p), s.Kids[0], s.I}
	case api.DSnd:
		p, s := x.asHead(c, x.premise(c, d, 0))
		first := marked(api.Fst, s.I, s.J, s.Kids[0], s.Kids[1], p)
		return typed{marked(api.Snd, s.I, s.J, s.Kids[0], s.Kids[1], p), subst.Put(s.Kids[1], first), s.J}
	case api.DEq:
		u, v := x.premise(c, d, 0), x.premise(c, d, 1)
		w := x.as(c, u.i, v.t, v.a, u.a)
		return typed{api.Term{Kind: api.Eq, I: u.i, Kids: []api.Term{u.a, u.t, w}}, sort(u.i), u.i + 1}
	case api.DRefl:
		u := x.premise(c, d, 0)
		t := api.Term{Kind: api.Refl, I: u.i, Kids: []api.Term{u.a, u.t}}
		return typed{t, api.Term{Kind: api.Eq, I: u.i, Kids: []api.Term{u.a, u.t, u.t}}, u.i}
	}
	// DConv: the only rule that is left for a judgment that is no equality.
	t, e := x.premise(c, d, 0), x.premiseEqual(c, d, 1)
	b, _ := x.asType(c, typed{e.V, e.B, e.I})
	p := x.across(c, t.i, t.a, e, b)
	return typed{transport(t.i, t.a, b, p, t.t), b, t.i}
}

// formed translates DPi and DSig.
func (x *translator) formed(c []api.Entry, d api.Deriv, kind int) typed {
	a, i := x.asType(c, x.premise(c, d, 0))
	inner := ctx.Add(c, a, i)
	b, j := x.asType(inner, x.premise(inner, d, 1))
	return typed{marked(kind, i, j, a, b), sort(max(i, j)), max(i, j) + 1}
}

// across proves a type of a level equal to b, by an equality of two types of the erasures of these.
func (x *translator) across(c []api.Entry, i int, a api.Term, e Equal, b api.Term) api.Term {
	return x.typeProof(x.chain(x.bridge(c, i+1, a, e.U), one(e.het()), x.bridge(c, i+1, e.V, b)), i)
}

// pairing is what the premises of DPair say.
type pairing struct {
	i, j       int
	a, b, u, v api.Term
}

func (p pairing) make(kind int, more ...api.Term) api.Term {
	return marked(kind, p.i, p.j, append([]api.Term{p.a, p.b}, more...)...)
}

func (p pairing) pair() api.Term {
	return p.make(api.Pair, p.u, p.v)
}

func (p pairing) level() int {
	return max(p.i, p.j)
}

// paired translates the premises of DPair.
func (x *translator) paired(c []api.Entry, d api.Deriv) pairing {
	u := x.premise(c, d, 0)
	inner := ctx.Add(c, u.a, u.i)
	b, j := x.asType(inner, x.premise(inner, d, 1))
	v := x.premise(c, d, 2)
	return pairing{u.i, j, u.a, b, u.t, x.as(c, j, v.t, v.a, subst.Put(b, u.t))}
}
