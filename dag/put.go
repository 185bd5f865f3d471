package dag

import (
	"tranship/api"
	"tranship/term"
)

// small is the size up to which a term is gone through without a memory of its parts.
const small = 24

// Lift returns n with its variables from a number on greater by k (chapter 5).
func (m *Machine) Lift(n *Node, k, from int) *Node {
	if k == 0 || n.Free <= from {
		return n
	}
	l := lifting{m: m, k: k}
	return l.in(n, from)
}

// lifting is a shift, with what it has made so far of nodes under binders.
type lifting struct {
	m    *Machine
	k    int
	done map[[2]int]*Node
}

func (l *lifting) in(n *Node, from int) *Node {
	if n.Free <= from {
		return n
	}
	if n.Kind == api.Var {
		return l.m.Var(n.I + l.k)
	}
	key := [2]int{n.ID, from}
	if n.size > small {
		if x := l.done[key]; x != nil {
			return x
		}
	}
	kids := make([]*Node, len(n.Kids))
	for i, k := range n.Kids {
		kids[i] = l.in(k, from+term.Binds(n.Kind, i))
	}
	x := l.m.with(n, kids)
	if n.size > small {
		if l.done == nil {
			l.done = map[[2]int]*Node{}
		}
		l.done[key] = x
	}
	return x
}

// Put returns n with terms for its first variables: the variable i becomes us[i], and the others move down (chapter 7).
func (m *Machine) Put(n *Node, us ...*Node) *Node {
	if n.Free == 0 || len(us) == 0 {
		return n
	}
	p := putting{m: m, us: us}
	return p.in(n, 0)
}

// putting is a substitution, with what it has made so far of nodes under b binders.
type putting struct {
	m    *Machine
	us   []*Node
	done map[[2]int]*Node
}

func (p *putting) in(n *Node, b int) *Node {
	if n.Free <= b {
		return n
	}
	if n.Kind == api.Var {
		return p.variable(n.I, b)
	}
	key := [2]int{n.ID, b}
	if n.size > small {
		if x := p.done[key]; x != nil {
			return x
		}
	}
	kids := make([]*Node, len(n.Kids))
	for i, k := range n.Kids {
		kids[i] = p.in(k, b+term.Binds(n.Kind, i))
	}
	x := p.m.with(n, kids)
	if n.size > small {
		p.keep(key, x)
	}
	return x
}

func (p *putting) keep(key [2]int, x *Node) {
	if p.done == nil {
		p.done = map[[2]int]*Node{}
	}
	p.done[key] = x
}

// variable is what becomes of a variable that is not bound by the b binders around it.
func (p *putting) variable(v, b int) *Node {
	if v-b >= len(p.us) {
		return p.m.Var(v - len(p.us))
	}
	u := p.us[v-b]
	if b == 0 || u.Free == 0 {
		return u
	}
	// A node has an ID from 1 on, so these keys are not those of nodes.
	key := [2]int{b - v - 1, b}
	if x := p.done[key]; x != nil {
		return x
	}
	x := p.m.Lift(u, b, 0)
	p.keep(key, x)
	return x
}
