package het

import (
	"strings"
	"testing"

	"tranship/api"
	"tranship/kernel"
	"tranship/lift"
	"tranship/read"
	"tranship/term"
)

var names = strings.Fields("A B a b h C c k p e")

func p(t *testing.T, text string) api.Term {
	x, e, at := read.Read(text, names, 0, 0)
	if e != api.OK {
		t.Fatal(text, e, at)
	}
	return x
}

// sample is a context with two equal elements of two types, and a third, and with Hets of them.
func sample(t *testing.T) ([]api.Term, Het, Het) {
	var c []api.Term
	for k, text := range []string{"(sort 2)", "(sort 2)", "A", "B", "(use het 2 0 A B a b)", "(sort 2)", "C", "(use het 2 0 B C b c)", "(Eq (sort 2) A B)", "(Eq A a a)"} {
		x, e, _ := read.Read(text, names[:k], 0, 0)
		if e != api.OK {
			t.Fatal(text)
		}
		c = append(c, x)
	}
	if e := kernel.Ctx(c, 10); e != api.OK {
		t.Fatal(e)
	}
	return c, Het{2, p(t, "A"), p(t, "B"), p(t, "a"), p(t, "b"), p(t, "h")}, Het{2, p(t, "B"), p(t, "C"), p(t, "b"), p(t, "c"), p(t, "k")}
}

func sameHets(g, h Het) bool {
	return g.I == h.I && term.Same(g.A, h.A) && term.Same(g.B, h.B) && term.Same(g.X, h.X) && term.Same(g.Y, h.Y) && term.Same(g.H, h.H)
}

const pa, pb, pc, ps = "(Pair X (sort 2) X A a)", "(Pair X (sort 2) X B b)", "(Pair X (sort 2) X C c)", "(Sig X (sort 2) X)"

func TestHets(t *testing.T) {
	c, g, h := sample(t)
	x := func(text string) api.Term {
		return p(t, strings.NewReplacer("PA", pa, "PB", pb, "PC", pc, "PS", ps).Replace(text))
	}
	for what, r := range map[string]struct{ got, want Het }{
		"Self":  {Self(2, x("A"), x("a")), Het{2, x("A"), x("A"), x("a"), x("a"), x("(Refl PS PA)")}},
		"Turn":  {Turn(g), Het{2, x("B"), x("A"), x("b"), x("a"), x("(use sym 3 0 PS PA PB h)")}},
		"Then":  {Then(g, h), Het{2, x("A"), x("C"), x("a"), x("c"), x("(use trans 3 0 PS PA PB PC h k)")}},
		"Of":    {Of(2, x("A"), x("a"), x("a"), x("e")), Het{2, x("A"), x("A"), x("a"), x("a"), x("(use e2h 2 0 A a a e)")}},
		"Moved": {Moved(2, x("A"), x("B"), x("p"), x("a")), Het{2, x("A"), x("B"), x("a"), x("(use tr 2 0 A B p a)"), x("(use trh 2 0 A B p a)")}},
		"Lift":  {Lift(g, 0), g},
	} {
		if !sameHets(r.got, r.want) {
			t.Error(what, r.got)
		}
		if e := kernel.Check(c, r.got.H, Type(r.got), 100); e != api.OK {
			t.Error("kernel", what, e)
		}
	}
	if !term.Same(Point(2, x("A"), x("a")), x("PA")) || !term.Same(Points(2), x("PS")) || !term.Same(Type(g), x("(use het 2 0 A B a b)")) {
		t.Error("points")
	}
	self := Self(2, x("A"), x("a"))
	if !term.Same(Eq(self), x("(use h2e 2 0 A a a (Refl PS PA))")) || kernel.Check(c, Eq(self), x("(Eq A a a)"), 100) != api.OK {
		t.Error("Eq", Eq(self))
	}
	if !term.Same(Eq(g), x("(use h2e 2 0 A a b h)")) {
		t.Error("Eq", Eq(g))
	}
	up := Lift(g, 3)
	if !sameHets(up, Het{2, lift.Lift(g.A, 3, 0), lift.Lift(g.B, 3, 0), lift.Lift(g.X, 3, 0), lift.Lift(g.Y, 3, 0), lift.Lift(g.H, 3, 0)}) {
		t.Error("Lift", up)
	}
}

// broken are Hets that are not right.
func broken(g Het) []Het {
	l := []Het{g, g, g, g, g, g, g, g, {}}
	l[0].I, l[1].I, l[2].I = -1, 999, 1<<40
	bad := api.Term{Kind: api.Refl, Kids: []api.Term{{Kind: api.Sort}, {Kind: api.Sort}}}
	l[3].A, l[4].B, l[5].X, l[6].Y, l[7].H = bad, api.Term{}, api.Term{Kind: api.PApp}, bad, api.Term{Kind: api.Var, I: -1}
	return l
}

func TestRefused(t *testing.T) {
	_, g, _ := sample(t)
	for i, b := range broken(g) {
		if !sameHets(Turn(b), Het{}) || !sameHets(Then(b, g), Het{}) || !sameHets(Then(g, b), Het{}) || !sameHets(Lift(b, 0), Het{}) || Eq(b).Kind != 0 || Type(b).Kind != 0 {
			t.Error(i)
		}
		a, x, y, e := b.A, b.X, b.Y, b.H
		if i < 3 || i == 8 || i == 3 || i == 5 {
			if !sameHets(Self(b.I, a, x), Het{}) || Point(b.I, a, x).Kind != 0 {
				t.Error("Self", i)
			}
		}
		if i != 4 && !sameHets(Of(b.I, a, x, y, e), Het{}) {
			t.Error("Of", i)
		}
		if i != 6 && !sameHets(Moved(b.I, a, b.B, e, x), Het{}) {
			t.Error("Moved", i)
		}
		if i < 3 && Points(b.I).Kind != 0 {
			t.Error("Points", i)
		}
	}
	other := g
	other.I = 3
	if !sameHets(Then(g, other), Het{}) || !sameHets(Then(other, g), Het{}) {
		t.Error("levels")
	}
	top := g
	top.Y = api.Term{Kind: api.Var, I: 1<<31 - 3}
	if !sameHets(Lift(g, -1), Het{}) || !sameHets(Lift(top, 3), Het{}) || sameHets(Lift(top, 2), Het{}) {
		t.Error("Lift")
	}
	edge := g
	edge.I = 998
	if Turn(edge).I != 998 || Turn(edge).H.I != 999 || Then(edge, edge).H.I != 999 || Points(998).Kind == 0 || !term.Plain(Type(edge)) || !term.Plain(Eq(edge)) {
		t.Error("edge")
	}
	if zero := Points(0); zero.Kind == 0 || zero.Kids[0].I != 0 {
		t.Error("level 0")
	}
}

func TestResultsAreNew(t *testing.T) {
	x := api.Term{Kind: api.PFst, Kids: []api.Term{{Kind: api.Var}}}
	h := Self(0, x, x)
	h = Then(h, h)
	for _, y := range []api.Term{h.A, h.B, h.X, h.Y} {
		y.Kids[0] = api.Term{Kind: api.Sort, I: 7}
	}
	if x.Kids[0].Kind != api.Var || term.Size(h.H) == 0 || h.H.Kids[1].Kids[2].Kids[0].Kind != api.Var {
		t.Error("shared")
	}
}
