package rule

import (
	"tranship/api"
	"tranship/ctx"
	"tranship/subst"
	"tranship/term"
)

// conclude is the table of the rules; their premises are right judgments, as many as there have to be.
func conclude(c []api.Entry, rule, i int, on []api.Judg) (api.Judg, bool) {
	switch rule {
	case api.DSort:
		return of(sort(i), sort(i+1), i+2), i >= 0 && i <= api.MaxSort
	case api.DVar:
		a, level, ok := ctx.At(c, i)
		return of(api.Term{Kind: api.Var, I: i}, a, level), ok
	case api.DPi:
		return formed(api.Pi, on)
	case api.DSig:
		return formed(api.Sig, on)
	case api.DLam:
		f := bound(on)
		return of(f.make(api.Lam, on[1].U), f.make(api.Pi), f.level()), f.ok
	case api.DApp:
		return applied(on)
	case api.DPair:
		f := paired(on)
		return of(f.make(api.Pair, on[0].U, on[2].U), f.make(api.Sig), f.level()), f.ok
	case api.DFst:
		f := split(on[0], api.Sig)
		return of(f.make(api.Fst, on[0].U), f.a, f.i), f.ok
	case api.DSnd:
		f := split(on[0], api.Sig)
		return of(f.make(api.Snd, on[0].U), subst.Put(f.b, f.make(api.Fst, on[0].U)), f.j), f.ok
	case api.DEq:
		a, k := on[0].A, on[0].I
		t := api.Term{Kind: api.Eq, I: k, Kids: []api.Term{a, on[0].U, on[1].U}}
		return of(t, sort(k), k+1), !on[0].Equal && has(on[1], a, k)
	case api.DRefl:
		u, a, k := on[0].U, on[0].A, on[0].I
		t := api.Term{Kind: api.Refl, I: k, Kids: []api.Term{a, u}}
		return of(t, api.Term{Kind: api.Eq, I: k, Kids: []api.Term{a, u, u}}, k), !on[0].Equal
	case api.DConv:
		return of(on[0].U, on[1].V, on[0].I), !on[0].Equal && converts(on)
	}
	return concludeEqual(rule, on)
}

// formed is the conclusion of DPi and DSig.
func formed(kind int, on []api.Judg) (api.Judg, bool) {
	f := family{a: on[0].U, b: on[1].U}
	var first, second bool
	f.i, first = isType(on[0])
	f.j, second = isType(on[1])
	return of(f.make(kind), sort(f.level()), f.level()+1), first && second
}

// bound takes the family from a type and from a term under it.
func bound(on []api.Judg) family {
	i, ok := isType(on[0])
	return family{i: i, j: on[1].I, a: on[0].U, b: on[1].A, ok: ok && !on[1].Equal}
}

func applied(on []api.Judg) (api.Judg, bool) {
	f := split(on[0], api.Pi)
	if !f.ok || !has(on[1], f.a, f.i) {
		return api.Judg{}, false
	}
	return of(f.make(api.App, on[0].U, on[1].U), subst.Put(f.b, on[1].U), f.j), true
}

// paired takes the family from the premises of DPair.
func paired(on []api.Judg) family {
	j, ok := isType(on[1])
	f := family{i: on[0].I, j: j, a: on[0].A, b: on[1].U}
	f.ok = ok && !on[0].Equal && has(on[2], subst.Put(f.b, on[0].U), j)
	return f
}

// converts tells whether premise 1 makes another type equal to that of premise 0.
func converts(on []api.Judg) bool {
	i, ok := areTypes(on[1])
	return ok && i == on[0].I && term.Same(on[0].A, on[1].U)
}
