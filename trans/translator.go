package trans

import (
	"tranship/api"
	"tranship/budget"
	"tranship/het"
	"tranship/rel"
	"tranship/shape"
	"tranship/strip"
	"tranship/term"
)

// The symbols of the library that are used here.
const (
	irrelevance = 1
	turning     = 3
	ofTypes     = 7
	replacing   = 12
)

// translator goes through a derivation; path is that of the node where it is.
type translator struct {
	most float64
	path []int
}

// typed is a term with its type and the level of that.
type typed struct {
	t, a api.Term
	i    int
}

// keep abandons the translation if something that has been made is too large.
func (x *translator) keep(t api.Term) api.Term {
	if !budget.Within(term.Size(t), x.most) {
		panic("too large")
	}
	return t
}

// inner translates a premise that is no equality.
func (x *translator) premise(c []api.Entry, d api.Deriv, k int) typed {
	x.path = append(x.path, k)
	r := x.term(c, d.Kids[k])
	x.path = x.path[:len(x.path)-1]
	return r
}

// premiseEqual translates a premise that is an equality.
func (x *translator) premiseEqual(c []api.Entry, d api.Deriv, k int) Equal {
	x.path = append(x.path, k)
	r := x.equal(c, d.Kids[k])
	x.path = x.path[:len(x.path)-1]
	return r
}

// as gives a term of a type another type of the same erasure.
func (x *translator) as(c []api.Entry, i int, t, a, b api.Term) api.Term {
	u, ok := shape.As(c, i, t, a, b)
	if !ok {
		// This happens only where the levels leave no room for a proof.
		u = transport(i, a, b, refl(sort(i), bare(a)), t)
	}
	return x.keep(u)
}

// asType gives a term whose type is a Sort behind transports that Sort as its type.
func (x *translator) asType(c []api.Entry, r typed) (api.Term, int) {
	i := shape.Head(r.a).I
	return x.as(c, i+1, r.t, r.a, sort(i)), i
}

// asHead gives a term as its type what is behind the transports of its type, and returns both.
func (x *translator) asHead(c []api.Entry, r typed) (t, a api.Term) {
	a = shape.Head(r.a)
	return x.as(c, r.i, r.t, r.a, a), a
}

// bridge is the equality of two terms of one erasure and of a level, or nothing if they are the same.
func (x *translator) bridge(c []api.Entry, i int, a, b api.Term) []het.Het {
	if term.Same(a, b) {
		return nil
	}
	h, _ := rel.Alike(shape.Ways(c), a, b)
	h.I = i
	x.keep(h.H)
	return []het.Het{h}
}

// chain composes equalities, of which there is one at least.
func (x *translator) chain(parts ...[]het.Het) het.Het {
	var all []het.Het
	for _, l := range parts {
		all = append(all, l...)
	}
	h := all[0]
	for _, g := range all[1:] {
		h = het.Then(h, g)
		x.keep(h.H)
	}
	return h
}

// one is an equality as a part of a chain.
func one(h het.Het) []het.Het {
	return []het.Het{h}
}

// typeProof makes of an equality of types of a level, which need not state their Sort, a proof of a PEq.
func (x *translator) typeProof(h het.Het, i int) api.Term {
	if term.Same(h.X, h.Y) {
		return x.keep(refl(sort(i), h.X))
	}
	h.I, h.A, h.B = i+1, sort(i), sort(i)
	p := het.Eq(h)
	if p.Kind == 0 {
		// As in as.
		p = refl(sort(i), h.X)
	}
	return x.keep(p)
}

// turned turns a proof that two types of a level are equal round.
func (x *translator) turned(i int, a, b, p api.Term) api.Term {
	if p.Kind == api.PRefl {
		return refl(sort(i), b)
	}
	return x.keep(use(turning, i+1, 0, sort(i), a, b, p))
}

// side is an Equal as a Het.
func (e Equal) het() het.Het {
	return het.Het{I: e.I, A: bare(e.A), B: bare(e.B), X: bare(e.U), Y: bare(e.V), H: e.H}
}

func bare(t api.Term) api.Term {
	return strip.Strip(t)
}

func sort(i int) api.Term {
	return api.Term{Kind: api.Sort, I: i}
}

func variable(i int) api.Term {
	return api.Term{Kind: api.Var, I: i}
}

func refl(a, t api.Term) api.Term {
	return api.Term{Kind: api.PRefl, Kids: []api.Term{a, t}}
}

func use(symbol, i, j int, l ...api.Term) api.Term {
	return api.Term{Kind: api.PUse, N: symbol, I: i, J: j, Kids: l}
}

func transport(i int, a, b, p, t api.Term) api.Term {
	return api.Term{Kind: api.Tr, I: i, Kids: []api.Term{a, b, p, t}}
}

// marked makes a term of a kind with two levels.
func marked(kind, i, j int, l ...api.Term) api.Term {
	return api.Term{Kind: kind, I: i, J: j, Kids: l}
}
