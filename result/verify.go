package result

import (
	"tranship/api"
	"tranship/conv"
	"tranship/ctx"
	"tranship/kernel"
	"tranship/mark"
	"tranship/strip"
)

// statement is the symbol of heterogeneous equality.
const statement = 6

// Verify: see the document.
func Verify(r Result, fuel float64) api.Errno {
	if !Right(r) {
		return api.ErrArg
	}
	if e := mark.Ctx(r.Ctx, fuel); e != api.OK {
		return e
	}
	if e := has(r.Ctx, r.U, r.A, r.I, fuel); e != api.OK {
		return e
	}
	if r.Equal {
		if e := has(r.Ctx, r.V, r.B, r.I, fuel); e != api.OK {
			return e
		}
	}
	plain := ctx.Plain(r.Ctx)
	if e := kernel.Ctx(plain, fuel); e != api.OK {
		return e
	}
	t, a := strip.Strip(r.U), strip.Strip(r.A)
	if r.Equal {
		t, a = r.H, api.Term{Kind: api.PUse, N: statement, I: r.I, Kids: []api.Term{a, strip.Strip(r.B), t, strip.Strip(r.V)}}
	}
	if e := kernel.Check(plain, t, a, fuel); e != api.ErrArg {
		return e
	}
	return api.ErrType
}

// has checks that a term has a type of a level, by its marks.
func has(c []api.Entry, t, a api.Term, i int, fuel float64) api.Errno {
	is, level, e := mark.Type(c, t, fuel)
	if e != api.OK {
		return e
	}
	if level != i {
		return api.ErrType
	}
	return alike(strip.Strip(is), strip.Strip(a), fuel)
}

// alike compares two types.
func alike(a, b api.Term, fuel float64) api.Errno {
	same, e := conv.Same(a, b, fuel)
	if e == api.OK && !same {
		return api.ErrType
	}
	return e
}
