package kernel

import (
	"tranship/api"
	"tranship/dag"
)

// kernel infers types. Every pair of a scope and a term is gone through once.
type kernel struct {
	m      *dag.Machine
	fuel   float64
	scopes map[[2]int]*scope
	types  map[[2]int]*dag.Node
}

// scope is a plain context, from its innermost entry outward. Equal scopes are one.
type scope struct {
	up *scope
	a  *dag.Node
	id int
}

func (k *kernel) empty() *scope {
	return &scope{}
}

// under extends a scope by an entry.
func (k *kernel) under(s *scope, a *dag.Node) *scope {
	key := [2]int{s.id, a.ID}
	x := k.scopes[key]
	if x == nil {
		x = &scope{s, a, len(k.scopes) + 1}
		k.scopes[key] = x
	}
	return x
}

func (k *kernel) scopeOf(c []api.Term) *scope {
	s := k.empty()
	for _, a := range c {
		s = k.under(s, k.m.In(a))
	}
	return s
}

func (k *kernel) head(t *dag.Node) *dag.Node {
	k.m.Fuel(k.fuel)
	return k.m.Head(t)
}

// sort returns the i for which a term is of sort i.
func (k *kernel) sort(s *scope, t *dag.Node) int {
	h := k.head(k.infer(s, t))
	if h.Kind != api.Sort {
		panic(illTyped{})
	}
	return h.I
}

// has demands that a term has a type.
func (k *kernel) has(s *scope, t, a *dag.Node) {
	if !k.m.Same(k.infer(s, t), a, k.fuel) {
		panic(illTyped{})
	}
}

func (k *kernel) infer(s *scope, t *dag.Node) *dag.Node {
	key := [2]int{s.id, t.ID}
	if a := k.types[key]; a != nil {
		return a
	}
	a := k.typeOf(s, t)
	k.types[key] = a
	return a
}

// typeOf is the table of types.
func (k *kernel) typeOf(s *scope, t *dag.Node) *dag.Node {
	m, l := k.m, t.Kids
	switch t.Kind {
	case api.Sort:
		if t.I >= api.MaxLevel {
			panic(illTyped{})
		}
		return m.Sort(t.I + 1)
	case api.Var:
		return k.entry(s, t.I)
	case api.PPi, api.PSig:
		i := k.sort(s, l[0])
		return m.Sort(max(i, k.sort(k.under(s, l[0]), l[1])))
	case api.PLam:
		k.sort(s, l[0])
		return m.Make(api.PPi, l[0], k.infer(k.under(s, l[0]), l[1]))
	case api.PApp:
		f := k.made(s, l[0], api.PPi)
		k.has(s, l[1], f.Kids[0])
		return m.Put(f.Kids[1], l[1])
	case api.PPair:
		k.sort(s, l[0])
		k.sort(k.under(s, l[0]), l[1])
		k.has(s, l[2], l[0])
		k.has(s, l[3], m.Put(l[1], l[2]))
		return m.Make(api.PSig, l[0], l[1])
	case api.PFst:
		return k.made(s, l[0], api.PSig).Kids[0]
	case api.PSnd:
		return m.Put(k.made(s, l[0], api.PSig).Kids[1], m.Make(api.PFst, l[0]))
	case api.PEq:
		i := k.sort(s, l[0])
		k.has(s, l[1], l[0])
		k.has(s, l[2], l[0])
		return m.Sort(i)
	case api.PRefl:
		k.sort(s, l[0])
		k.has(s, l[1], l[0])
		return m.Make(api.PEq, l[0], l[1], l[1])
	case api.PJ:
		return k.ofJ(s, l)
	}
	return k.ofUse(s, t)
}

// entry is the type of a variable.
func (k *kernel) entry(s *scope, v int) *dag.Node {
	for range v {
		s = s.up
	}
	return k.m.Lift(s.a, v+1, 0)
}

// made returns the head of the type of a term, which has to be of a kind.
func (k *kernel) made(s *scope, t *dag.Node, kind int) *dag.Node {
	h := k.head(k.infer(s, t))
	if h.Kind != kind {
		panic(illTyped{})
	}
	return h
}

// ofJ is the type of a PJ with the kids A, u, P, w, v, p.
func (k *kernel) ofJ(s *scope, l []*dag.Node) *dag.Node {
	m := k.m
	a, u, goal := l[0], l[1], l[2]
	k.sort(s, a)
	k.has(s, u, a)
	y := k.under(s, a)
	e := k.under(y, m.Make(api.PEq, m.Lift(a, 1, 0), m.Lift(u, 1, 0), m.Var(0)))
	k.sort(e, goal)
	k.has(s, l[3], m.Put(goal, m.Make(api.PRefl, a, u), u))
	k.has(s, l[4], a)
	k.has(s, l[5], m.Make(api.PEq, a, u, l[4]))
	return m.Put(goal, l[5], l[4])
}

// ofUse is the type of a PUse.
func (k *kernel) ofUse(s *scope, t *dag.Node) *dag.Node {
	x := k.m.Symbol(t.N, t.I, t.J)
	if x == nil {
		panic(illTyped{})
	}
	for i, p := range x.Params {
		k.has(s, t.Kids[i], k.m.Given(p, t.Kids[:i]))
	}
	return k.m.Given(x.Type, t.Kids)
}
