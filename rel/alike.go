package rel

import (
	"tranship/api"
	"tranship/cong"
	"tranship/het"
	"tranship/lift"
	"tranship/term"
	"tranship/tree"
)

// alike is Alike for arguments that are fine.
func alike(env []het.Het, a, b api.Term) (het.Het, bool) {
	var h het.Het
	var ok [4]bool
	h.X, ok[0] = side(env, a, left)
	h.Y, ok[1] = side(env, b, right)
	h.I, h.A, ok[2] = typed(env, a, left, leftType)
	_, h.B, ok[3] = typed(env, b, right, rightType)
	if ok != [4]bool{true, true, true, true} {
		return het.Het{}, false
	}
	h.A, h.B = tree.Copy(h.A), tree.Copy(h.B)
	h.H = proof(env, a, b, h)
	if h.H.Kind == 0 {
		// Marks that are not right may leave no proof. Any plain term will do then, so that what is made of it is a term.
		h.H = het.Self(h.I, h.A, h.X).H
	}
	return h, true
}

// proof proves the equality that h states of the sides of a and b.
func proof(env []het.Het, a, b api.Term, h het.Het) api.Term {
	switch {
	case a.Kind == api.Var && b.Kind == api.Var:
		return tree.Copy(env[len(env)-1-a.I].H)
	case term.Same(h.X, h.Y):
		// What the kernel takes for the same term has the same type, by computation.
		return het.Self(h.I, h.A, h.X).H
	case a.Kind == api.Tr:
		rest, _ := alike(env, a.Kids[3], b)
		rest.I = a.I
		return het.Then(het.Turn(transport(env, a, left)), rest).H
	case b.Kind == api.Tr:
		rest, _ := alike(env, a, b.Kids[3])
		rest.I = b.I
		return het.Then(rest, transport(env, b, right)).H
	}
	return congruent(env, a, b, h)
}

// transport proves a side of the kid x of a Tr equal to that of the Tr.
func transport(env []het.Het, t api.Term, of func(het.Het) api.Term) het.Het {
	var l [4]api.Term
	for k, x := range t.Kids {
		l[k], _ = side(env, x, of)
	}
	return het.Moved(t.I, l[0], l[1], l[2], l[3])
}

// congruent proves two terms of one kind equal by the equality of their kids.
func congruent(env []het.Het, a, b api.Term, h het.Het) api.Term {
	kid := func(k int) het.Het {
		x, _ := alike(env, a.Kids[k], b.Kids[k])
		return x
	}
	m := max(a.I, a.J)
	switch a.Kind {
	case api.Pi:
		return het.Of(m+1, sort(m), h.X, h.Y, cong.Pi(family(env, a, b))).H
	case api.Sig:
		return het.Of(m+1, sort(m), h.X, h.Y, cong.Sig(family(env, a, b))).H
	case api.Lam:
		t, s := sideUnder(env, a.Kids[2], left), sideUnder(env, b.Kids[2], right)
		k := enclosed(env, a, b, func(inner []het.Het) api.Term {
			x, _ := alike(inner, a.Kids[2], b.Kids[2])
			return x.H
		})
		return cong.Lam(family(env, a, b), t, s, k).H
	case api.App:
		return cong.App(family(env, a, b), kid(2), kid(3)).H
	case api.Pair:
		return cong.Pair(family(env, a, b), kid(2), kid(3)).H
	case api.Fst:
		return cong.Fst(family(env, a, b), kid(2)).H
	case api.Snd:
		return cong.Snd(family(env, a, b), kid(2)).H
	case api.Eq:
		types := kid(0)
		return het.Of(m+1, sort(m), h.X, h.Y, cong.Eq(a.I, types.X, types.Y, typeProof(types, a.I), kid(1), kid(2))).H
	case api.Refl:
		types := kid(0)
		return cong.Refl(a.I, types.X, types.Y, typeProof(types, a.I), kid(1)).H
	}
	return api.Term{}
}

// typeProof proves the sides of a Het of types of a level equal as types.
func typeProof(h het.Het, i int) api.Term {
	if term.Same(h.X, h.Y) {
		return api.Term{Kind: api.PRefl, Kids: []api.Term{sort(i), h.X}}
	}
	h.I, h.A, h.B = i+1, sort(i), sort(i)
	return het.Eq(h)
}

// family proves the kids 0 and 1 of two terms equal, as a type and a family of types over it.
func family(env []het.Het, a, b api.Term) cong.Fam {
	types, _ := alike(env, a.Kids[0], b.Kids[0])
	return cong.Fam{
		I: a.I, J: a.J,
		A: types.X, C: types.Y,
		B: sideUnder(env, a.Kids[1], left), D: sideUnder(env, b.Kids[1], right),
		E: typeProof(types, a.I),
		F: enclosed(env, a, b, func(inner []het.Het) api.Term {
			h, _ := alike(inner, a.Kids[1], b.Kids[1])
			return typeProof(h, a.J)
		}),
	}
}

// enclosed is a proof under the binders of two terms, as a function of their variables and of a proof that these are equal.
func enclosed(env []het.Het, a, b api.Term, of func(inner []het.Het) api.Term) api.Term {
	x, _ := side(env, a.Kids[0], left)
	y, _ := side(env, b.Kids[0], right)
	inner := of(packed(env, a.I, x, y))
	return lam(x, lam(lift.Lift(y, 1, 0), lam(equals(a.I, lift.Lift(x, 2, 0), lift.Lift(y, 2, 0)), inner)))
}

func lam(a, t api.Term) api.Term {
	return api.Term{Kind: api.PLam, Kids: []api.Term{a, t}}
}
