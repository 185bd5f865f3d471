package dag

import "tranship/api"

// frame is a term whose head is looked for: of its first part, or, once it has moved, of what a step has made of it.
type frame struct {
	n     *Node
	moved bool
}

// Head returns the head of a plain term (chapter 18). It panics with Spent when the allowance is exhausted.
//
// It keeps the terms that wait in a list of its own and not on the stack: there may be as many as there are steps.
func (m *Machine) Head(n *Node) *Node {
	var waiting []frame
	for {
		v := n.head
		if v == nil {
			if next, moved := m.into(n); next != nil {
				// Head reduction has no choices: a term that needs its own head has none.
				if n.heading {
					panic(Spent{})
				}
				n.heading = true
				waiting = append(waiting, frame{n, moved})
				n = next
				continue
			}
			n.head = n
			v = n
		}
		for n = nil; n == nil; {
			if len(waiting) == 0 {
				return v
			}
			top := &waiting[len(waiting)-1]
			if !top.moved {
				if n = m.reduct(top.n, v); n != nil {
					top.moved = true
					break
				}
				v = m.around(top.n, v)
				v.head = v
			}
			top.n.head, top.n.heading = v, false
			waiting = waiting[:len(waiting)-1]
		}
	}
}

// into returns the term whose head is to be found before that of n, and whether a step has led to it.
func (m *Machine) into(n *Node) (*Node, bool) {
	switch n.Kind {
	case api.PApp, api.PFst, api.PSnd, api.PJ:
		return n.Kids[first(n)], false
	case api.PUse:
		if s := m.Symbol(n.N, n.I, n.J); s != nil && s.body != nil {
			m.step()
			return m.Given(s.body, n.Kids), true
		}
	}
	return nil, false
}

// first is the number of the kid in which head steps are made.
func first(n *Node) int {
	if n.Kind == api.PJ {
		return 5
	}
	return 0
}

// reduct returns what a step makes of n when its first part has become v, or nil if there is no step.
func (m *Machine) reduct(n, v *Node) *Node {
	switch {
	case n.Kind == api.PApp && v.Kind == api.PLam:
		m.step()
		return m.Put(v.Kids[1], n.Kids[1])
	case n.Kind == api.PFst && v.Kind == api.PPair:
		m.step()
		return v.Kids[2]
	case n.Kind == api.PSnd && v.Kind == api.PPair:
		m.step()
		return v.Kids[3]
	case n.Kind == api.PJ && v.Kind == api.PRefl:
		m.step()
		return n.Kids[3]
	}
	return nil
}

// around returns n with v as its first part.
func (m *Machine) around(n, v *Node) *Node {
	i := first(n)
	if n.Kids[i] == v {
		return n
	}
	kids := append([]*Node(nil), n.Kids...)
	kids[i] = v
	return m.with(n, kids)
}

// Norm returns the normal form of a plain term (chapter 18). It panics with Spent as Head does.
func (m *Machine) Norm(n *Node) *Node {
	if n.norm != nil {
		return n.norm
	}
	// A term that is a part of its own normal form has none.
	if n.norming {
		panic(Spent{})
	}
	n.norming = true
	m.enter()
	h := m.Head(n)
	kids := make([]*Node, len(h.Kids))
	for i, k := range h.Kids {
		kids[i] = m.Norm(k)
	}
	x := m.with(h, kids)
	x.norm, x.head = x, x
	n.norm, n.norming = x, false
	m.nested--
	return x
}

// enter keeps the recursion from growing beyond the stack.
func (m *Machine) enter() {
	m.nested++
	if m.nested > maxDeep {
		panic(Spent{})
	}
}
