// Package tree copies terms and derivations of every kind, well formed or not, and measures the levels of terms.
package tree

import "tranship/api"

// Copy returns the term in new memory.
func Copy(t api.Term) api.Term {
	t.Kids = Copies(t.Kids)
	return t
}

// Copies returns the terms in new memory, in no list for an empty one.
func Copies(l []api.Term) []api.Term {
	if len(l) == 0 {
		return nil
	}
	to := make([]api.Term, len(l))
	for i, t := range l {
		to[i] = Copy(t)
	}
	return to
}

// Entries returns the entries in new memory, with room for one more.
func Entries(c []api.Entry) []api.Entry {
	to := make([]api.Entry, len(c), len(c)+1)
	for i, e := range c {
		to[i] = api.Entry{A: Copy(e.A), I: e.I}
	}
	return to
}

// Deriv returns the derivation in new memory.
func Deriv(d api.Deriv) api.Deriv {
	to := api.Deriv{Rule: d.Rule, I: d.I}
	if len(d.Kids) > 0 {
		to.Kids = make([]api.Deriv, len(d.Kids))
	}
	for i, k := range d.Kids {
		to.Kids[i] = Deriv(k)
	}
	return to
}

// Level returns the greatest level of a well-formed term: of its sorts, its marks and its symbols.
func Level(t api.Term) int {
	most := t.J
	if t.Kind != api.Var {
		most = max(most, t.I)
	}
	for _, k := range t.Kids {
		most = max(most, Level(k))
	}
	return most
}

// Low tells whether no level of a term is greater than most.
func Low(t api.Term, most int) bool {
	return Level(t) <= most
}

// LowCtx tells whether no level of an entry, or of its type, is greater than most.
func LowCtx(c []api.Entry, most int) bool {
	for _, e := range c {
		if e.I > most || !Low(e.A, most) {
			return false
		}
	}
	return true
}
