// Package naive does by trees and word by word what layers 18 and 19 promise. It is there for tests, which hold the
// layers against it, and makes terms for them.
package naive

import (
	"tranship/api"
	"tranship/lift"
	"tranship/sig"
	"tranship/subst"
	"tranship/term"
)

// Steps counts down the steps that are left.
type Steps struct{ Left int }

// step returns what a step makes of a term itself.
func step(t api.Term) (api.Term, bool) {
	switch {
	case t.Kind == api.PApp && t.Kids[0].Kind == api.PLam:
		return subst.Put(t.Kids[0].Kids[1], t.Kids[1]), true
	case t.Kind == api.PFst && t.Kids[0].Kind == api.PPair:
		return t.Kids[0].Kids[2], true
	case t.Kind == api.PSnd && t.Kids[0].Kind == api.PPair:
		return t.Kids[0].Kids[3], true
	case t.Kind == api.PJ && t.Kids[5].Kind == api.PRefl:
		return t.Kids[3], true
	case t.Kind == api.PUse:
		s, ok := sig.At(t.N, t.I, t.J)
		if !ok || !s.Def {
			return t, false
		}
		var l []api.Term
		for i := len(t.Kids) - 1; i >= 0; i-- {
			l = append(l, t.Kids[i])
		}
		x, _ := subst.All(s.Body, l)
		return x, true
	}
	return t, false
}

// HeadStep makes a head step.
func HeadStep(t api.Term) (api.Term, bool) {
	if x, ok := step(t); ok {
		return x, true
	}
	k := -1
	switch t.Kind {
	case api.PApp, api.PFst, api.PSnd:
		k = 0
	case api.PJ:
		k = 5
	default:
		return t, false
	}
	x, ok := HeadStep(t.Kids[k])
	if !ok {
		return t, false
	}
	kids := append([]api.Term(nil), t.Kids...)
	kids[k] = x
	t.Kids = kids
	return t, true
}

// Head does head reduction; it fails when the steps, or the room, run out.
func (s *Steps) Head(t api.Term) (api.Term, bool) {
	for {
		x, ok := HeadStep(t)
		if !ok {
			return t, true
		}
		if s.Left == 0 || term.Size(x) > 2000 {
			return t, false
		}
		s.Left--
		t = x
	}
}

// Norm does standard reduction.
func (s *Steps) Norm(t api.Term) (api.Term, bool) {
	t, ok := s.Head(t)
	if !ok {
		return t, false
	}
	kids := make([]api.Term, len(t.Kids))
	for i, k := range t.Kids {
		if kids[i], ok = s.Norm(k); !ok {
			return t, false
		}
	}
	t.Kids = kids
	return t, true
}

// Alike compares two terms without a step.
func Alike(a, b api.Term) bool {
	switch {
	case a.Kind == api.PLam && b.Kind == api.PLam:
		return Alike(a.Kids[1], b.Kids[1])
	case a.Kind == api.PPair && b.Kind == api.PPair:
		return Alike(a.Kids[2], b.Kids[2]) && Alike(a.Kids[3], b.Kids[3])
	case a.Kind == api.PLam:
		return Alike(a.Kids[1], api.Term{Kind: api.PApp, Kids: []api.Term{lift.Lift(b, 1, 0), {Kind: api.Var}}})
	case b.Kind == api.PLam:
		return Alike(b, a)
	case a.Kind == api.PPair:
		return Alike(a.Kids[2], api.Term{Kind: api.PFst, Kids: []api.Term{b}}) && Alike(a.Kids[3], api.Term{Kind: api.PSnd, Kids: []api.Term{b}})
	case b.Kind == api.PPair:
		return Alike(b, a)
	}
	if a.Kind != b.Kind || a.I != b.I || a.J != b.J || a.N != b.N || len(a.Kids) != len(b.Kids) {
		return false
	}
	for i, k := range a.Kids {
		if !Alike(k, b.Kids[i]) {
			return false
		}
	}
	return true
}

// Random makes terms from a seed.
type Random struct{ Seed uint64 }

// Below returns a number from 0 to n - 1.
func (r *Random) Below(n int) int {
	r.Seed = r.Seed*6364136223846793005 + 1442695040888963407
	return int(r.Seed>>33) % n
}

// Plain makes a plain term of some depth at most, with free variables below a number.
func (r *Random) Plain(deep, free int) api.Term {
	if deep <= 1 {
		if free > 0 && r.Below(4) > 0 {
			return api.Term{Kind: api.Var, I: r.Below(free)}
		}
		return api.Term{Kind: api.Sort, I: r.Below(3)}
	}
	kinds := []int{api.PPi, api.PLam, api.PLam, api.PLam, api.PApp, api.PApp, api.PApp, api.PApp, api.PSig, api.PPair, api.PPair, api.PFst, api.PFst, api.PSnd, api.PSnd, api.PEq, api.PRefl, api.PJ, api.PUse, api.Var}
	t := api.Term{Kind: kinds[r.Below(len(kinds))]}
	if t.Kind == api.Var {
		return r.Plain(1, free)
	}
	if t.Kind == api.PUse {
		t.N = []int{1, 3, 4, 5, 6, 11}[r.Below(6)]
	}
	for i := range term.Kids(t.Kind, t.N) {
		t.Kids = append(t.Kids, r.Plain(deep-1-r.Below(2), free+term.Binds(t.Kind, i)))
	}
	if t.Kind == api.PJ && r.Below(2) == 0 {
		t.Kids[5] = api.Term{Kind: api.PRefl, Kids: []api.Term{r.Plain(1, free), r.Plain(1, free)}}
	}
	return t
}
