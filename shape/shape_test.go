package shape

import (
	"testing"

	"tranship/api"
	"tranship/conv"
	"tranship/ctx"
	"tranship/erase"
	"tranship/het"
	"tranship/kernel"
	"tranship/mark"
	"tranship/read"
	"tranship/rel"
	"tranship/strip"
	"tranship/term"
)

func sort(i int) api.Term     { return api.Term{Kind: api.Sort, I: i} }
func variable(i int) api.Term { return api.Term{Kind: api.Var, I: i} }

var names = []string{"L", "A", "a", "f"}

func m(t *testing.T, text string) api.Term {
	x, e, at := read.Read(text, names, 0, 0)
	if e != api.OK {
		t.Fatal(text, e, at)
	}
	return x
}

// The context has proofs L that types equal themselves, of which nothing is known.
func sample(t *testing.T) []api.Entry {
	var c []api.Entry
	for k, text := range []string{"(pi 2 2 X (sort 1) (eq 2 (sort 1) X X))", "(sort 0)", "A", "(pi 0 0 x A A)"} {
		x, e, _ := read.Read(text, names[:k], 0, 0)
		if e != api.OK {
			t.Fatal(text)
		}
		c = ctx.Add(c, x, []int{2, 1, 0, 0}[k])
	}
	if e := mark.Ctx(c, 100); e != api.OK {
		t.Fatal(e)
	}
	return c
}

// other is A behind a transport.
const other = "(tr 1 (sort 0) (sort 0) (App L (sort 0)) A)"

func TestWays(t *testing.T) {
	c := sample(t)
	env := Ways(c)
	if len(env) != 4 || len(Ways(nil)) != 0 {
		t.Fatal(env)
	}
	for k := range c {
		a, i, _ := ctx.At(c, k)
		want, h := het.Self(i, strip.Strip(a), variable(k)), env[3-k]
		if h.I != i || !term.Same(h.A, want.A) || !term.Same(h.B, want.B) || !term.Same(h.X, variable(k)) || !term.Same(h.Y, variable(k)) || !term.Same(h.H, want.H) {
			t.Error(k, h)
		}
		if e := kernel.Check(ctx.Plain(c), h.H, het.Type(h), 100); e != api.OK {
			t.Error(k, e)
		}
	}
	for i, bad := range [][]api.Entry{{{A: variable(0)}}, {{}}, {{A: sort(997), I: 1}}, {{A: sort(0), I: 997}}, {{A: sort(0), I: -1}}} {
		if len(Ways(bad)) != 0 {
			t.Error(i)
		}
	}
	if len(Ways([]api.Entry{{A: sort(996), I: 996}})) != 1 {
		t.Error("996")
	}
}

func TestHead(t *testing.T) {
	tr := func(a, b, p, x api.Term) api.Term { return api.Term{Kind: api.Tr, Kids: []api.Term{a, b, p, x}} }
	v := variable
	lam := api.Term{Kind: api.Lam, Kids: []api.Term{v(0), v(0), tr(v(1), v(2), v(3), v(0))}}
	for i, r := range [][2]api.Term{
		{tr(v(1), v(2), v(3), tr(v(4), v(1), v(5), v(0))), v(0)}, {v(3), v(3)}, {sort(2), sort(2)}, {tr(v(1), v(2), v(3), lam), lam}, {lam, lam},
		{{}, {}}, {{Kind: api.PFst, Kids: []api.Term{v(0)}}, {}}, {tr(v(1), v(2), v(3), api.Term{Kind: api.PFst, Kids: []api.Term{v(0)}}), {}}, {{Kind: api.Tr}, {}},
	} {
		if got := Head(r[0]); !term.Same(got, r[1]) {
			t.Error(i, got)
		}
	}
}

func TestEq(t *testing.T) {
	c := sample(t)
	plain, moved := m(t, "A"), m(t, other)
	x, _ := As(c, 0, m(t, "a"), plain, moved)
	eq := api.Term{Kind: api.Eq, Kids: []api.Term{moved, x, x}}
	for k, r := range [][2]api.Term{{plain, plain}, {plain, moved}, {moved, plain}, {m(t, "(pi 0 0 x A A)"), m(t, "(pi 0 0 x A "+other+")")}, {m(t, "(eq 0 A a a)"), eq}} {
		a, b := r[0], r[1]
		if _, i, e := mark.Type(c, b, 1000); e != api.OK || i != 1 {
			t.Fatal(k, i, e)
		}
		e, ok := Eq(c, 0, a, b)
		h, _ := rel.Alike(Ways(c), a, b)
		h.I, h.A = 1, sort(0)
		if !ok || !term.Same(e, het.Eq(h)) {
			t.Error(k, e, ok)
		}
		want := api.Term{Kind: api.PEq, Kids: []api.Term{sort(0), strip.Strip(a), strip.Strip(b)}}
		if e := kernel.Check(ctx.Plain(c), e, want, 1e5); e != api.OK {
			t.Error("kernel", k, e)
		}
	}
	a := m(t, "A")
	for i, want := range map[int]bool{-1: false, 995: true, 996: false, 1 << 40: false} {
		if e, ok := Eq(c, i, a, a); ok != want || (e.Kind != 0) != want {
			t.Error(i, e, ok)
		}
	}
	for i, r := range [][2]api.Term{{a, m(t, "a")}, {a, {}}, {variable(4), variable(4)}, {sort(997), sort(997)}} {
		if e, ok := Eq(c, 0, r[0], r[1]); ok || e.Kind != 0 {
			t.Error("no proof", i, e)
		}
	}
}

func TestAs(t *testing.T) {
	c := sample(t)
	a, b, x := m(t, "A"), m(t, other), m(t, "a")
	got, ok := As(c, 0, x, a, b)
	e, _ := Eq(c, 0, a, b)
	if !ok || !term.Same(got, api.Term{Kind: api.Tr, Kids: []api.Term{a, b, e, x}}) || !term.Same(erase.Erase(got), x) {
		t.Error(got, ok)
	}
	if is, i, e := mark.Type(c, got, 1e5); e != api.OK || i != 0 || !term.Same(is, b) {
		t.Error("mark", is, i, e)
	}
	back, ok := As(c, 0, got, b, a)
	if is, i, e := mark.Type(c, back, 1e5); !ok || e != api.OK || i != 0 || !term.Same(is, a) || erase.Count(back) < 2 {
		t.Error("back", is, i, e)
	}
	if same, _ := conv.Same(strip.Strip(back), strip.Strip(x), 1e5); same {
		t.Error("transports are seen")
	}
	for _, i := range []int{0, -5, 996, 1 << 40} {
		if got, ok := As(nil, i, x, b, b); !ok || !term.Same(got, x) {
			t.Error("the same", i, got, ok)
		}
	}
	if got, ok := As(c, 5, x, a, b); !ok || got.I != 5 {
		t.Error("level", got)
	}
	plain := api.Term{Kind: api.PFst, Kids: []api.Term{x}}
	for k, r := range []struct {
		i       int
		t, a, b api.Term
	}{{0, plain, a, a}, {0, api.Term{}, a, b}, {0, x, plain, plain}, {0, x, a, x}, {0, x, a, api.Term{}}, {-1, x, a, b}, {996, x, a, b}} {
		if got, ok := As(c, r.i, r.t, r.a, r.b); ok || got.Kind != 0 {
			t.Error(k, got, ok)
		}
	}
	if got, ok := As(nil, 0, x, a, b); ok || got.Kind != 0 {
		t.Error("no context", got, ok)
	}
}

func TestResultsAreNew(t *testing.T) {
	x := m(t, "(refl 0 A (refl 0 A a))")
	got, _ := As(nil, 0, x, sort(0), sort(0))
	head := Head(x)
	got.Kids[1].Kids[0], head.Kids[1].Kids[0] = sort(7), sort(8)
	if x.Kids[1].Kids[0].Kind != api.Var {
		t.Error("shared")
	}
}
