package read

import (
	"strings"
	"testing"

	"tranship/api"
	"tranship/lex"
	"tranship/term"
)

func mk(kind int, kids ...api.Term) api.Term { return api.Term{Kind: kind, Kids: kids} }
func mi(kind, i, j int, kids ...api.Term) api.Term {
	return api.Term{Kind: kind, I: i, J: j, Kids: kids}
}
func s(i int) api.Term { return api.Term{Kind: api.Sort, I: i} }
func v(i int) api.Term { return api.Term{Kind: api.Var, I: i} }

var abc = []string{"a", "b", "c"}

func TestRead(t *testing.T) {
	for text, want := range map[string]api.Term{
		"(sort 3)": s(3), " ( sort ;x\n 3 )\n;end": s(3), "a": v(2), "c": v(0), "(sort i)": s(4), "(sort j)": s(7), "(sort (suc i))": s(5),
		"(sort (max i j))": s(7), "(sort (max (suc j) 8))": s(8), "(sort (max (suc (suc 8)) i))": s(10), "(sort 1000)": s(1000), "(sort (suc 999))": s(1000),
		"(pi 1 2 x a x)": mi(api.Pi, 1, 2, v(2), v(0)), "(pi i j x a b)": mi(api.Pi, 4, 7, v(2), v(2)),
		"(lam 1 2 x a x x)":           mi(api.Lam, 1, 2, v(2), v(0), v(0)),
		"(app 1 2 x a x b c)":         mi(api.App, 1, 2, v(2), v(0), v(1), v(0)),
		"(sig 1 2 x a x)":             mi(api.Sig, 1, 2, v(2), v(0)),
		"(pair 1 2 x a x b c)":        mi(api.Pair, 1, 2, v(2), v(0), v(1), v(0)),
		"(fst 1 2 c a c c)":           mi(api.Fst, 1, 2, v(2), v(0), v(0)),
		"(snd 1 2 x a a a)":           mi(api.Snd, 1, 2, v(2), v(3), v(2)),
		"(eq 1 a b c)":                mi(api.Eq, 1, 0, v(2), v(1), v(0)),
		"(refl 2 a (sort 0))":         mi(api.Refl, 2, 0, v(2), s(0)),
		"(tr 3 a b (Fst c) a)":        mi(api.Tr, 3, 0, v(2), v(1), mk(api.PFst, v(0)), v(2)),
		"(Pi x a x)":                  mk(api.PPi, v(2), v(0)),
		"(Lam x (sort i) x)":          mk(api.PLam, s(4), v(0)),
		"(App a b)":                   mk(api.PApp, v(2), v(1)),
		"(Sig x a x)":                 mk(api.PSig, v(2), v(0)),
		"(Pair x a x b c)":            mk(api.PPair, v(2), v(0), v(1), v(0)),
		"(Fst a)":                     mk(api.PFst, v(2)),
		"(Snd a)":                     mk(api.PSnd, v(2)),
		"(Eq a b c)":                  mk(api.PEq, v(2), v(1), v(0)),
		"(Refl a b)":                  mk(api.PRefl, v(2), v(1)),
		"(J a b y e (App y e) c b a)": mk(api.PJ, v(2), v(1), mk(api.PApp, v(1), v(0)), v(0), v(1), v(2)),
		"(J a b y y y c b a)":         mk(api.PJ, v(2), v(1), v(0), v(0), v(1), v(2)),
		"(use sym 1 2 a b c a)":       {Kind: api.PUse, N: 3, I: 1, J: 2, Kids: []api.Term{v(2), v(1), v(0), v(2)}},
		"(Lam a b (Lam a a a))":       mk(api.PLam, v(1), mk(api.PLam, v(0), v(0))),
		"(Lam sort a sort)":           mk(api.PLam, v(2), v(0)),
	} {
		got, e, at := Read(text, abc, 4, 7)
		if e != api.OK || at != 0 || !term.Same(got, want) || !term.Right(got) {
			t.Errorf("%q: %v %d %d", text, got, e, at)
		}
	}
	if got, e, _ := Read("x", []string{"x", "y", "x", "z"}, 0, 0); e != api.OK || got.I != 1 {
		t.Error("the last one", got)
	}
}

func TestSymbols(t *testing.T) {
	for i, line := range api.Library() {
		name := strings.Fields(line)[1]
		if Name(i+1) != name || Symbol(name) != i+1 || !lex.Name(name) {
			t.Error(i, name)
		}
		text := "(use " + name + " 0 0" + strings.Repeat(" a", term.Kids(api.PUse, i+1)) + ")"
		if x, e, at := Read(text, abc, 0, 0); e != api.OK || x.N != i+1 {
			t.Error(text, e, at)
		}
		if _, e, at := Read(strings.Replace(text, " a)", ")", 1), abc, 0, 0); e != api.ErrParse || at != len(text)-3 {
			t.Error(text, e, at)
		}
	}
	if Name(0) != "" || Name(22) != "" || Name(-1) != "" || Symbol("") != 0 || Symbol("UIP") != 0 || Symbol("crefl ") != 0 {
		t.Error("no symbols")
	}
}

func TestFaults(t *testing.T) {
	for text, want := range map[string]int{
		"": 0, "  ": 2, "(": 1, "()": 1, ")": 0, "7": 0, "(Lam x (sort 0) y)": 16, "d": 0, "(foo a)": 1, "(a b)": 1, "(7)": 1,
		"(sort)": 5, "(sort 0": 7, "(sort 0))": 8, "a b": 2, "(sort 0) a": 9, "(sort 0 0)": 8, "(sort 1001)": 6, "(sort x)": 6, "(sort (suc 1000))": 6,
		"(sort (suc 1000)": 6, "(sort (suc 1000": 15, "(sort (suc 1000 1))": 16, "(sort (max 1 1001))": 13, "(sort (max 1001 1002))": 11, "(sort (suc (max 5 1001)))": 18,
		"(sort (suc (suc 999)))": 6, "(sort (suc (suc 1000)))": 11, "(sort (foo 1))": 7, "(sort (max 1))": 12, "(sort ())": 7,
		"(Pi x (pi 0 0 y a a) a)": 7, "(pi 0 0 x (Pi x a a) a)": 11, "(tr 0 a a (refl 0 a a) a)": 11, "(tr 0 a a (Refl a a) (Refl a a))": 22, "(tr 0 a a x a)": 10,
		"(use foo 0 0 a)": 5, "(use 3 0 0 a)": 5, "(use (a) 0 0)": 5, "(use sym 0 a a a a)": 11, "(use sym 0 0 a a a a a)": 21,
		"(Pi (a) a a)": 4, "(Pi 3 a a)": 4, "(pi 0 a a a)": 6, "(Fst)": 4, "(Fst a a)": 7, "(J a a y (e) a a a a)": 9, "(J a a y e q a a a)": 11,
		"$": 0, "a $": 2, "(sort 0) $": 9, "(sort $": 6, "(foo $": 1, "(sort 01)": 6, "(sort 0) a $": 9, "(sort 1001) 01": 6,
		"(Fst b) 01": 8, "(Pi x a x) x": 11, "(Pi x x a)": 6, "(J a a y e a y a a)": 13,
	} {
		if x, e, at := Read(text, abc, 0, 0); e != api.ErrParse || at != want || !term.Same(x, api.Term{}) {
			t.Errorf("%q: %v %d %d", text, x, e, at)
		}
	}
}

func TestLevelsGiven(t *testing.T) {
	for _, c := range [][2]int{{-1, 0}, {0, -1}, {1001, 0}, {0, 1001}} {
		if x, e, at := Read("$", nil, c[0], c[1]); e != api.ErrArg || at != 0 || x.Kind != 0 {
			t.Error(c, x, e, at)
		}
	}
	if x, e, _ := Read("(sort (max i j))", nil, 1000, 0); e != api.OK || x.I != 1000 {
		t.Error(x, e)
	}
	if _, e, at := Read("(sort (suc i))", nil, 1000, 0); e != api.ErrParse || at != 6 {
		t.Error(e, at)
	}
}

func TestManyNames(t *testing.T) {
	names := append(strings.Fields(strings.Repeat("p q r s ", 50)), "a", "last")
	text := "a"
	for range 30 {
		text = "(App (Lam r q (App s r)) (App q " + text + "))"
	}
	x, e, at := Read(text, names, 0, 0)
	if e != api.OK {
		t.Fatal(e, at)
	}
	for range 30 {
		f := x.Kids[0]
		if f.Kids[0].I != 4 || f.Kids[1].Kids[0].I != 3 || f.Kids[1].Kids[1].I != 0 || x.Kids[1].Kids[0].I != 4 {
			t.Fatal(x)
		}
		x = x.Kids[1].Kids[1]
	}
	if x.I != 1 {
		t.Error(x)
	}
	if _, e, at := Read(strings.Replace(text, "a))", "z))", 1), names, 0, 0); e != api.ErrParse || text[at] != 'a' {
		t.Error(e, at)
	}
}

func TestDeepText(t *testing.T) {
	n := 1 << 16
	text := strings.Repeat("(Fst ", n) + "a" + strings.Repeat(")", n)
	if x, e, _ := Read(text, abc, 0, 0); e != api.OK || term.Deep(x) != n+1 {
		t.Error(e)
	}
	if _, e, at := Read(text[:len(text)-1], abc, 0, 0); e != api.ErrParse || at != len(text)-1 {
		t.Error(e, at)
	}
}
