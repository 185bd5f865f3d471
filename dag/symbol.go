package dag

import "tranship/sig"

// Symbol is a symbol of the library at two levels; the variables of its terms are its parameters, as in chapter 17.
type Symbol struct {
	Params []*Node
	Type   *Node
	body   *Node
}

// Symbol returns a symbol, or nil if there is none at these levels.
func (m *Machine) Symbol(n, i, j int) *Symbol {
	key := [3]int{n, i, j}
	if s, ok := m.symbols[key]; ok {
		return s
	}
	var s *Symbol
	if t, ok := sig.At(n, i, j); ok {
		s = &Symbol{Params: m.Ins(t.Params), Type: m.In(t.Type)}
		if t.Def {
			s.body = m.In(t.Body)
		}
	}
	m.symbols[key] = s
	return s
}

// Given returns a term over parameters with the arguments, the first one first, in their places.
func (m *Machine) Given(t *Node, args []*Node) *Node {
	us := make([]*Node, len(args))
	for i, a := range args {
		us[len(args)-1-i] = a
	}
	return m.Put(t, us...)
}
