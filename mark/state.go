package mark

import (
	"tranship/api"
	"tranship/dag"
	"tranship/kernel"
)

// marks finds whether the marks of terms are right. Every pair of a scope and a term is gone through once.
type marks struct {
	m      *dag.Machine
	fuel   float64
	scopes map[[3]int]*scope
	known  map[[2]int]answer
	bare   map[int]*dag.Node
}

// scope is a context, from its innermost entry outward, with its types stripped. Equal scopes are one.
type scope struct {
	up   *scope
	a    *dag.Node
	i    int
	id   int
	size int
}

// answer is the type, stripped, and the level that the marks of a term state.
type answer struct {
	a *dag.Node
	i int
}

func (k *marks) empty() *scope {
	return &scope{}
}

// under extends a scope by an entry.
func (k *marks) under(s *scope, a *dag.Node, i int) *scope {
	a = k.strip(a)
	key := [3]int{s.id, a.ID, i}
	x := k.scopes[key]
	if x == nil {
		x = &scope{s, a, i, len(k.scopes) + 1, s.size + 1}
		k.scopes[key] = x
	}
	return x
}

// plain is the scope as a plain context.
func (s *scope) plain() []api.Term {
	l := make([]api.Term, s.size)
	for ; s.size > 0; s = s.up {
		l[s.size-1] = dag.Out(s.a)
	}
	return l
}

func (k *marks) entry(s *scope, v int) answer {
	for range v {
		s = s.up
	}
	return answer{k.m.Lift(s.a, v+1, 0), s.i}
}

// demand ends the computation if a condition does not hold.
func demand(ok bool) {
	if !ok {
		panic(illTyped{})
	}
}

// isType demands that a term is a type of a level.
func (k *marks) isType(s *scope, t *dag.Node, i int) {
	x := k.state(s, t)
	demand(x.i == i+1)
	k.m.Fuel(k.fuel)
	demand(k.m.Head(x.a) == k.m.Sort(i))
}

// has demands that a term has a type, which is given stripped, of a level.
func (k *marks) has(s *scope, t, a *dag.Node, i int) {
	x := k.state(s, t)
	demand(x.i == i)
	demand(k.m.Same(x.a, a, k.fuel))
}

// state is the type and the level that the marks of a term state, if its conditions hold.
func (k *marks) state(s *scope, t *dag.Node) answer {
	key := [2]int{s.id, t.ID}
	x, ok := k.known[key]
	if !ok {
		x = k.table(s, t)
		k.known[key] = x
	}
	return x
}

// family demands that the kids 0 and 1 of a term are a type and a family of types over it.
func (k *marks) family(s *scope, t *dag.Node) {
	k.isType(s, t.Kids[0], t.I)
	k.isType(k.under(s, t.Kids[0], t.I), t.Kids[1], t.J)
}

// table is the table of types, levels and conditions.
func (k *marks) table(s *scope, t *dag.Node) answer {
	m, l, top := k.m, t.Kids, max(t.I, t.J)
	switch t.Kind {
	case api.Sort:
		demand(t.I+2 <= api.MaxLevel)
		return answer{m.Sort(t.I + 1), t.I + 2}
	case api.Var:
		return k.entry(s, t.I)
	case api.Pi, api.Sig:
		k.family(s, t)
		demand(top < api.MaxLevel)
		return answer{m.Sort(top), top + 1}
	case api.Lam:
		k.family(s, t)
		k.has(k.under(s, l[0], t.I), l[2], k.strip(l[1]), t.J)
		return answer{k.over(api.PPi, t), top}
	case api.App:
		k.family(s, t)
		k.has(s, l[2], k.over(api.PPi, t), top)
		k.has(s, l[3], k.strip(l[0]), t.I)
		return answer{m.Put(k.strip(l[1]), k.strip(l[3])), t.J}
	case api.Pair:
		k.family(s, t)
		k.has(s, l[2], k.strip(l[0]), t.I)
		k.has(s, l[3], m.Put(k.strip(l[1]), k.strip(l[2])), t.J)
		return answer{k.over(api.PSig, t), top}
	case api.Fst, api.Snd:
		k.family(s, t)
		k.has(s, l[2], k.over(api.PSig, t), top)
		if t.Kind == api.Fst {
			return answer{k.strip(l[0]), t.I}
		}
		return answer{m.Put(k.strip(l[1]), m.Make(api.PFst, k.strip(l[2]))), t.J}
	}
	return k.rest(s, t)
}

// over is the Pi or the Sig of the kids 0 and 1 of a term.
func (k *marks) over(kind int, t *dag.Node) *dag.Node {
	return k.m.Make(kind, k.strip(t.Kids[0]), k.strip(t.Kids[1]))
}

// rest is the table for the terms with one level.
func (k *marks) rest(s *scope, t *dag.Node) answer {
	m, l := k.m, t.Kids
	a := k.strip(l[0])
	k.isType(s, l[0], t.I)
	switch t.Kind {
	case api.Eq:
		demand(t.I < api.MaxLevel)
		k.has(s, l[1], a, t.I)
		k.has(s, l[2], a, t.I)
		return answer{m.Sort(t.I), t.I + 1}
	case api.Refl:
		k.has(s, l[1], a, t.I)
		u := k.strip(l[1])
		return answer{m.Make(api.PEq, a, u, u), t.I}
	}
	b := k.strip(l[1])
	k.isType(s, l[1], t.I)
	demand(t.I < api.MaxLevel)
	k.proves(s, l[2], m.Make(api.PEq, m.Sort(t.I), a, b))
	k.has(s, l[3], a, t.I)
	return answer{b, t.I}
}

// proves demands that the kernel accepts a proof of a statement.
func (k *marks) proves(s *scope, p, a *dag.Node) {
	switch kernel.Check(s.plain(), dag.Out(p), dag.Out(a), k.fuel) {
	case api.OK:
	case api.ErrFuel:
		panic(dag.Spent{})
	default:
		panic(illTyped{})
	}
}

// strip is Strip of chapter 6.
func (k *marks) strip(t *dag.Node) *dag.Node {
	if t.Kind <= api.Var || t.Kind > api.Tr {
		return t
	}
	x := k.bare[t.ID]
	if x == nil {
		kids := make([]*dag.Node, len(t.Kids))
		for i, y := range t.Kids {
			kids[i] = k.strip(y)
		}
		x = k.stripped(t, kids)
		k.bare[t.ID] = x
	}
	return x
}

// stripped is the plain term that is made of the stripped kids of a marked one.
func (k *marks) stripped(t *dag.Node, l []*dag.Node) *dag.Node {
	switch t.Kind {
	case api.Pi:
		return k.m.Make(api.PPi, l...)
	case api.Lam:
		return k.m.Make(api.PLam, l[0], l[2])
	case api.App:
		return k.m.Make(api.PApp, l[2], l[3])
	case api.Sig:
		return k.m.Make(api.PSig, l...)
	case api.Pair:
		return k.m.Make(api.PPair, l...)
	case api.Fst:
		return k.m.Make(api.PFst, l[2])
	case api.Snd:
		return k.m.Make(api.PSnd, l[2])
	case api.Eq:
		return k.m.Make(api.PEq, l...)
	case api.Refl:
		return k.m.Make(api.PRefl, l...)
	}
	return k.m.Use(5, t.I, 0, l...)
}
