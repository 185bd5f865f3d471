package rel

import (
	"tranship/api"
	"tranship/het"
	"tranship/lift"
	"tranship/strip"
	"tranship/subst"
)

// left and right choose a side of a Het.
func left(h het.Het) api.Term  { return h.X }
func right(h het.Het) api.Term { return h.Y }

// leftType and rightType choose the type of a side.
func leftType(h het.Het) api.Term  { return h.A }
func rightType(h het.Het) api.Term { return h.B }

// side is a side of a term.
func side(env []het.Het, t api.Term, of func(het.Het) api.Term) (api.Term, bool) {
	return subst.All(strip.Strip(t), values(env, of))
}

// values are what a side puts for the variables, that of the variable 0 first.
func values(env []het.Het, of func(het.Het) api.Term) []api.Term {
	l := make([]api.Term, len(env))
	for k, h := range env {
		l[len(env)-1-k] = of(h)
	}
	return l
}

// sideUnder is a side of a term that is in the scope of one more binder, which stays.
func sideUnder(env []het.Het, t api.Term, of func(het.Het) api.Term) api.Term {
	l := []api.Term{variable(0)}
	for _, x := range values(env, of) {
		l = append(l, lift.Lift(x, 1, 0))
	}
	x, _ := subst.All(strip.Strip(t), l)
	return x
}

// typed is the level that the marks of a term state, and a side of the type that they state.
func typed(env []het.Het, t api.Term, of, ofType func(het.Het) api.Term) (int, api.Term, bool) {
	if t.Kind == api.Var {
		h := env[len(env)-1-t.I]
		return h.I, ofType(h), true
	}
	a, i := stated(t)
	x, ok := side(env, a, of)
	return i, x, ok
}

// stated is the type and the level that the marks of a term, which is no variable, state.
func stated(t api.Term) (api.Term, int) {
	m := max(t.I, t.J)
	switch t.Kind {
	case api.Sort:
		return sort(t.I + 1), t.I + 2
	case api.Pi, api.Sig:
		return sort(m), m + 1
	case api.Lam:
		return api.Term{Kind: api.Pi, I: t.I, J: t.J, Kids: t.Kids[:2]}, m
	case api.App:
		return subst.Put(t.Kids[1], t.Kids[3]), t.J
	case api.Pair:
		return api.Term{Kind: api.Sig, I: t.I, J: t.J, Kids: t.Kids[:2]}, m
	case api.Fst:
		return t.Kids[0], t.I
	case api.Snd:
		return subst.Put(t.Kids[1], api.Term{Kind: api.Fst, I: t.I, J: t.J, Kids: t.Kids}), t.J
	case api.Eq:
		return sort(t.I), t.I + 1
	case api.Refl:
		return api.Term{Kind: api.Eq, I: t.I, Kids: []api.Term{t.Kids[0], t.Kids[1], t.Kids[1]}}, t.I
	}
	return t.Kids[1], t.I
}
