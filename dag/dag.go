// Package dag holds terms in which equal parts are one node, and computes with plain ones.
//
// Layers 18 to 22 share it. A proof that the translation makes repeats its parts so often that, as a tree, it could not
// be compared or reduced in good time; here each distinct part is looked at once.
package dag

import (
	"tranship/api"
	"tranship/budget"
	"tranship/term"
)

// Node is a term. Two nodes of one machine are the same term exactly if they are the same pointer.
type Node struct {
	Kind, I, J, N int
	Kids          []*Node
	ID            int // from 1 on, in the order of making
	Free          int // as in chapter 4

	size, deep int
	hash       uint64
	next       *Node // in the machine's table
	head       *Node // the head, once it is known
	norm       *Node // the normal form, once it is known
	heading    bool  // its head is being looked for
	norming    bool  // its normal form is being looked for
}

// Spent is what a machine panics with when its allowance is exhausted, when it finds that it would never end, or when
// it has no more room.
type Spent struct{}

// Limits that keep a machine within the stack and the memory.
const (
	maxDeep = 1 << 20
	maxSize = 1 << 40
	maxOut  = 1 << 26
	// More nodes than these take more bytes than the document's bound has.
	maxNodes = 40_000_000
)

// Machine makes nodes and computes with them.
type Machine struct {
	table   []*Node
	count   int
	room    int
	symbols map[[3]int]*Symbol
	pairs   map[[2]int]int
	fuel    float64
	steps   *budget.Budget
	nested  int
	typed   func() bool // see Trust
}

// New returns a machine whose computations may use no steps, until Fuel says otherwise.
func New() *Machine {
	return &Machine{
		table:   make([]*Node, 1<<8),
		room:    maxNodes,
		symbols: map[[3]int]*Symbol{},
		pairs:   map[[2]int]int{},
		steps:   budget.New(0),
	}
}

// Fuel sets the allowance of the next computation.
func (m *Machine) Fuel(f float64) {
	m.fuel = budget.Least(f, 1e9)
	m.steps = budget.New(m.fuel)
	m.nested = 0
}

// step uses one step of the allowance.
func (m *Machine) step() {
	if !m.steps.Take(1) {
		panic(Spent{})
	}
}

// In returns the node of a right term.
func (m *Machine) In(t api.Term) *Node {
	kids := make([]*Node, len(t.Kids))
	for i, k := range t.Kids {
		kids[i] = m.In(k)
	}
	return m.node(t.Kind, t.I, t.J, t.N, kids)
}

// Ins returns the nodes of right terms.
func (m *Machine) Ins(l []api.Term) []*Node {
	to := make([]*Node, len(l))
	for i, t := range l {
		to[i] = m.In(t)
	}
	return to
}

// Out returns a node as a term, in new memory. It panics with Spent if that would be more than memory can hold.
func Out(n *Node) api.Term {
	if n.size > maxOut {
		panic(Spent{})
	}
	t := api.Term{Kind: n.Kind, I: n.I, J: n.J, N: n.N}
	if len(n.Kids) > 0 {
		t.Kids = make([]api.Term, len(n.Kids))
	}
	for i, k := range n.Kids {
		t.Kids[i] = Out(k)
	}
	return t
}

// Make returns the node of a kind without numbers.
func (m *Machine) Make(kind int, kids ...*Node) *Node {
	return m.node(kind, 0, 0, 0, kids)
}

// Sort returns Sort i.
func (m *Machine) Sort(i int) *Node {
	return m.node(api.Sort, i, 0, 0, nil)
}

// Var returns Var i.
func (m *Machine) Var(i int) *Node {
	return m.node(api.Var, i, 0, 0, nil)
}

// Use returns a PUse.
func (m *Machine) Use(symbol, i, j int, kids ...*Node) *Node {
	return m.node(api.PUse, i, j, symbol, kids)
}

// with returns a node that differs from n in its kids only.
func (m *Machine) with(n *Node, kids []*Node) *Node {
	return m.node(n.Kind, n.I, n.J, n.N, kids)
}

// node finds the node of these parts, or makes it.
func (m *Machine) node(kind, i, j, n int, kids []*Node) *Node {
	h := hash(kind, i, j, n, kids)
	slot := h & uint64(len(m.table)-1)
	for x := m.table[slot]; x != nil; x = x.next {
		if x.hash == h && x.is(kind, i, j, n, kids) {
			return x
		}
	}
	if m.count >= m.room {
		panic(Spent{})
	}
	m.count++
	x := &Node{Kind: kind, I: i, J: j, N: n, Kids: kids, ID: m.count, hash: h, next: m.table[slot]}
	x.measure()
	if x.deep > maxDeep {
		panic(Spent{})
	}
	m.table[slot] = x
	if m.count > 2*len(m.table) {
		m.grow()
	}
	return x
}

func (x *Node) is(kind, i, j, n int, kids []*Node) bool {
	if x.Kind != kind || x.I != i || x.J != j || x.N != n || len(x.Kids) != len(kids) {
		return false
	}
	for k, y := range kids {
		if x.Kids[k] != y {
			return false
		}
	}
	return true
}

func hash(kind, i, j, n int, kids []*Node) uint64 {
	const prime = 0x9E3779B97F4A7C15
	h := uint64(kind)
	for _, x := range [3]int{i, j, n} {
		h = (h ^ uint64(x)) * prime
		h ^= h >> 29
	}
	for _, k := range kids {
		h = (h ^ uint64(k.ID)) * prime
		h ^= h >> 32
	}
	return h
}

// measure finds the free variables, the size and the depth of a node whose kids are known.
func (x *Node) measure() {
	x.size, x.deep = 1, 1
	if x.Kind == api.Var {
		x.Free = x.I + 1
	}
	for i, k := range x.Kids {
		x.Free = max(x.Free, k.Free-term.Binds(x.Kind, i))
		x.deep = max(x.deep, k.deep+1)
		x.size = min(x.size+k.size, maxSize)
	}
}

// grow makes the table larger.
func (m *Machine) grow() {
	old := m.table
	m.table = make([]*Node, 4*len(old))
	for _, x := range old {
		for x != nil {
			next := x.next
			slot := x.hash & uint64(len(m.table)-1)
			x.next = m.table[slot]
			m.table[slot] = x
			x = next
		}
	}
}
