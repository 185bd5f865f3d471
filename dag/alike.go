package dag

import "tranship/api"

// What is known of a pair of terms: whether they are convertible, or that this is just being asked.
const (
	open = iota + 1
	yes
	no
)

// Trust has the machine ask, when it first needs to know, whether the terms that it compares have types, and therefore
// normal forms. Without that they may be any terms.
func (m *Machine) Trust(typed func() bool) {
	m.typed = typed
}

// trusted tells what has been answered.
func (m *Machine) trusted() bool {
	if m.typed == nil {
		return false
	}
	is := m.typed()
	m.typed = func() bool { return is }
	return is
}

// Same tells whether two plain terms are convertible (chapter 19), within an allowance of its own. It panics with
// Spent only if their standard reductions together do not end within that; if they do not end at all, it does so
// always, since what steps show of terms without normal forms is no answer. Only that a term is convertible with
// itself is known without a step.
//
// Terms that are known to have normal forms are compared the short way first. That may take steps which standard
// reduction does not take; if they are too many, the long way is left.
func (m *Machine) Same(a, b *Node, fuel float64) bool {
	if a == b {
		return true
	}
	if m.trusted() {
		m.Fuel(fuel)
		if same, ended := m.short(a, b); ended {
			return same
		}
		m.calm()
	}
	m.Fuel(fuel)
	return m.alike(m.Norm(a), m.Norm(b))
}

// short is the short way, which reduces no more than it has to and tries the parts of two terms before it unfolds
// them. It tells whether it has come to its end.
func (m *Machine) short(a, b *Node) (same, ended bool) {
	defer func() {
		if x := recover(); x != nil {
			if _, ok := x.(Spent); !ok {
				panic(x)
			}
			same, ended = false, false
		}
	}()
	return m.alike(a, b), true
}

// calm forgets what was being looked for when a computation was abandoned.
func (m *Machine) calm() {
	for _, x := range m.table {
		for ; x != nil; x = x.next {
			x.heading, x.norming = false, false
		}
	}
	for key, is := range m.pairs {
		if is == open {
			delete(m.pairs, key)
		}
	}
}

// alike tells whether the normal forms of two terms are alike.
func (m *Machine) alike(a, b *Node) bool {
	return m.ask(a, b, true)
}

// ask compares two terms; by the rules for a PLam or a PPair on one side only it does so if expand says so.
func (m *Machine) ask(a, b *Node, expand bool) bool {
	if a == b {
		return true
	}
	key := [2]int{min(a.ID, b.ID), max(a.ID, b.ID)}
	if !expand {
		// The other order keeps the answers to the two questions apart.
		key = [2]int{key[1], key[0]}
	}
	switch m.pairs[key] {
	case yes:
		return true
	case no:
		return false
	case open:
		// Normal forms are finite: where the question comes back within itself, there is none.
		panic(Spent{})
	}
	m.pairs[key] = open
	m.enter()
	same := m.compare(a, b, expand)
	m.nested--
	m.pairs[key] = no
	if same {
		m.pairs[key] = yes
	}
	return same
}

func (m *Machine) compare(a, b *Node, expand bool) bool {
	// What is made in the same way of terms that are equal without these rules is equal. With them this would hold only
	// for terms that have types.
	if like(a, b) && unsettled(a.Kind) && m.all(a.Kids, b.Kids, false) {
		return true
	}
	a, b = m.Head(a), m.Head(b)
	switch {
	case a == b:
		return true
	case a.Kind == api.PLam && b.Kind == api.PLam:
		return m.ask(a.Kids[1], b.Kids[1], expand)
	case a.Kind == api.PPair && b.Kind == api.PPair:
		return m.all(a.Kids[2:], b.Kids[2:], expand)
	case like(a, b):
		return m.all(a.Kids, b.Kids, expand)
	case !expand:
		return false
	case a.Kind == api.PLam:
		return m.eta(a, b)
	case b.Kind == api.PLam:
		return m.eta(b, a)
	case a.Kind == api.PPair:
		return m.surjective(a, b)
	case b.Kind == api.PPair:
		return m.surjective(b, a)
	}
	return false
}

// like tells whether two terms differ in their kids only.
func like(a, b *Node) bool {
	return a.Kind == b.Kind && a.I == b.I && a.J == b.J && a.N == b.N && len(a.Kids) == len(b.Kids)
}

// unsettled tells of a kind whether its terms may make a step.
func unsettled(kind int) bool {
	switch kind {
	case api.PApp, api.PFst, api.PSnd, api.PJ, api.PUse:
		return true
	}
	return false
}

func (m *Machine) all(a, b []*Node, expand bool) bool {
	for i, x := range a {
		if !m.ask(x, b[i], expand) {
			return false
		}
	}
	return true
}

// eta compares a PLam with what is none.
func (m *Machine) eta(lam, s *Node) bool {
	return m.alike(lam.Kids[1], m.Make(api.PApp, m.Lift(s, 1, 0), m.Var(0)))
}

// surjective compares a PPair with what is neither a PPair nor a PLam.
func (m *Machine) surjective(pair, s *Node) bool {
	return m.alike(pair.Kids[2], m.Make(api.PFst, s)) && m.alike(pair.Kids[3], m.Make(api.PSnd, s))
}
