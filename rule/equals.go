package rule

import (
	"tranship/api"
	"tranship/lift"
	"tranship/subst"
	"tranship/term"
)

// concludeEqual is the part of the table whose conclusions are Equal.
func concludeEqual(rule int, on []api.Judg) (api.Judg, bool) {
	p := on[0]
	switch rule {
	case api.ESame:
		return equal(p.U, p.U, p.A, p.I), !p.Equal
	case api.ESym:
		return equal(p.V, p.U, p.A, p.I), p.Equal
	case api.ETrans:
		q := on[1]
		return equal(p.U, q.V, p.A, p.I), p.Equal && q.Equal && p.I == q.I && term.Same(p.V, q.U) && term.Same(p.A, q.A)
	case api.EConv:
		return equal(p.U, p.V, on[1].V, p.I), p.Equal && converts(on)
	case api.EReflect:
		if !proof(p) {
			return api.Judg{}, false
		}
		return equal(p.A.Kids[1], p.A.Kids[2], p.A.Kids[0], p.I), true
	case api.EIrr:
		return equal(p.U, on[1].U, p.A, p.I), proof(p) && has(on[1], p.A, p.I)
	case api.ERepl:
		t := on[1]
		return equal(subst.Put(t.U, p.U), subst.Put(t.U, p.V), subst.Put(t.A, p.U), t.I), p.Equal && !t.Equal
	case api.EPi, api.ESig, api.ELam, api.EPair:
		return congruent(rule, on)
	}
	return computed(rule, on)
}

// proof tells whether a judgment gives its U an Eq of its own level as a type.
func proof(j api.Judg) bool {
	return !j.Equal && j.A.Kind == api.Eq && j.A.I == j.I
}

// computed is the part of the table whose two sides compute to the same.
func computed(rule int, on []api.Judg) (api.Judg, bool) {
	switch rule {
	case api.EBeta:
		u, t := on[0], on[1]
		f := family{i: u.I, j: t.I, a: u.A, b: t.A}
		left := f.make(api.App, f.make(api.Lam, t.U), u.U)
		return equal(left, subst.Put(t.U, u.U), subst.Put(t.A, u.U), t.I), !u.Equal && !t.Equal
	case api.EFirst:
		f := paired(on)
		return equal(f.make(api.Fst, f.make(api.Pair, on[0].U, on[2].U)), on[0].U, f.a, f.i), f.ok
	case api.ESecond:
		f := paired(on)
		return equal(f.make(api.Snd, f.make(api.Pair, on[0].U, on[2].U)), on[2].U, on[2].A, f.j), f.ok
	case api.EEta:
		f := split(on[0], api.Pi)
		if !f.ok {
			return api.Judg{}, false
		}
		inner := family{i: f.i, j: f.j, a: lift.Lift(f.a, 1, 0), b: lift.Lift(f.b, 1, 1)}
		body := inner.make(api.App, lift.Lift(on[0].U, 1, 0), api.Term{Kind: api.Var})
		return equal(on[0].U, f.make(api.Lam, body), on[0].A, on[0].I), true
	case api.ESurj:
		f, p := split(on[0], api.Sig), on[0].U
		return equal(p, f.make(api.Pair, f.make(api.Fst, p), f.make(api.Snd, p)), on[0].A, on[0].I), f.ok
	}
	return api.Judg{}, false
}

// congruent is the part of the table in which equal types make equal terms.
func congruent(rule int, on []api.Judg) (api.Judg, bool) {
	f := family{a: on[0].U, b: on[1].U, c: on[0].V, d: on[1].V}
	var first, second bool
	f.i, first = areTypes(on[0])
	f.j, second = areTypes(on[1])
	f.ok = first && second
	m := f.level()
	switch rule {
	case api.EPi:
		return equal(f.make(api.Pi), f.other(api.Pi), sort(m), m+1), f.ok
	case api.ESig:
		return equal(f.make(api.Sig), f.other(api.Sig), sort(m), m+1), f.ok
	case api.ELam:
		t := on[2]
		f.ok = f.ok && t.Equal && t.I == f.j && term.Same(t.A, f.b)
		return equal(f.make(api.Lam, t.U), f.other(api.Lam, t.V), f.make(api.Pi), m), f.ok
	}
	u, v := on[2], on[3]
	f.ok = f.ok && has(u, f.a, f.i) && has(v, subst.Put(f.b, u.U), f.j)
	return equal(f.make(api.Pair, u.U, v.U), f.other(api.Pair, u.U, v.U), f.make(api.Sig), m), f.ok
}
