package parse

import (
	"math"
	"strings"
	"testing"

	"tranship/api"
	"tranship/deriv"
)

var inf = math.Inf(1)

func same(a, b api.File) bool {
	return deriv.Same(api.Deriv{Kids: append([]api.Deriv{a.D}, a.Ctx...)}, api.Deriv{Kids: append([]api.Deriv{b.D}, b.Ctx...)})
}

func n(rule, i int, kids ...api.Deriv) api.Deriv { return api.Deriv{Rule: rule, I: i, Kids: kids} }

func TestFile(t *testing.T) {
	for text, want := range map[string]api.File{
		"(file () (sort 0))":          {D: n(api.DSort, 0)},
		"(file ((sort 0)) (var 0))\n": {Ctx: []api.Deriv{n(api.DSort, 0)}, D: n(api.DVar, 0)},
		" ( file( (sort 1)(var 1000000) );x\n(pi (sort 3) (var 0)) );": {Ctx: []api.Deriv{n(api.DSort, 1), n(api.DVar, 1000000)}, D: n(api.DPi, 0, n(api.DSort, 3), n(api.DVar, 0))},
		"(file () (refl (eq (var 0) (refl (var 1)))))":                 {D: n(api.DRefl, 0, n(api.DEq, 0, n(api.DVar, 0), n(api.DRefl, 0, n(api.DVar, 1))))},
	} {
		f, e, at, word := File(text, inf, inf)
		if e != api.OK || at != 0 || word != "" || !same(f, want) {
			t.Errorf("%q: %v %d %d %q", text, f, e, at, word)
		}
	}
}

func TestEveryRule(t *testing.T) {
	for rule := 1; rule <= 28; rule++ {
		text := "(" + deriv.Word(rule) + strings.Repeat(" (var 7)", deriv.Kids(rule)) + ")"
		if rule <= 2 {
			text = "(" + deriv.Word(rule) + " 7)"
		}
		f, e, at, _ := File("(file () "+text+")", inf, inf)
		if e != api.OK || f.D.Rule != rule || !deriv.Right(f.D) {
			t.Error(text, e, at)
		}
		more := strings.TrimSuffix(text, ")") + " (var 7))"
		if _, e, at, _ = File("(file () "+more+")", inf, inf); e != api.ErrParse || at != 9+len(text) {
			t.Error(more, e, at)
		}
		if rule > 2 {
			less := strings.Replace(text, " (var 7)", "", 1)
			if _, e, at, _ = File("(file () "+less+")", inf, inf); e != api.ErrParse || at != 9+len(less)-1 {
				t.Error(less, e, at)
			}
		}
	}
}

func TestFaults(t *testing.T) {
	for text, want := range map[string]int{
		"": 0, " ;x\n": 4, "(": 1, "file": 0, "(fil": 1, "(fil ())": 1, "(file": 5, "(file (sort 0))": 7, "(file ())": 8, "(file () ": 9, "(file () (sort))": 14, "(file () (sort 0)": 17,
		"(file () (sort 0)) )": 19, "(file () (sort 0) (sort 0))": 18, "(file () sort)": 9, "(file () (foo 0))": 10, "(file () (7))": 10, "(file () ())": 10, "(file () (sort x))": 15,
		"(file () (pi 0))": 13, "(file () (var 0 0))": 16, "(file (x) (sort 0))": 7, "(file 0 (sort 0))": 6, "$": 0, "(file () (sort $0))": 15, "(file () (foo $": 10, "(file () (sort 01))": 15,
		"(file () (sort 0)) $": 19, "(file () (sort 0)) x $": 19, "(file () (pi (sort 0) $": 22, "(file () (sort 1000001))": 15, "(file () (Sort 0))": 10,
	} {
		if f, e, at, word := File(text, inf, inf); e != api.ErrParse || at != want || word != "" || !same(f, api.File{}) {
			t.Errorf("%q: %v %d %d %q", text, f, e, at, word)
		}
	}
}

func TestLimits(t *testing.T) {
	const text = "(file ((sort 0) (pi (sort 0) (sym (var 0)))) (refl (sort 0)))"
	for _, c := range []struct {
		deep, nodes float64
		at          int
		word        string
	}{
		{0, inf, 7, "deep"}, {0.9, 0, 7, "deep"}, {1, inf, 20, "deep"}, {2, inf, 34, "deep"}, {2.9, inf, 34, "deep"}, {math.NaN(), math.NaN(), 7, "deep"},
		{inf, 0, 7, "nodes"}, {inf, 1, 16, "nodes"}, {inf, 2.5, 20, "nodes"}, {inf, 3, 29, "nodes"}, {3, 4, 34, "nodes"}, {2, 4, 34, "deep"}, {3, 5, 45, "nodes"}, {3, 6, 51, "nodes"},
		{inf, math.NaN(), 7, "nodes"}, {inf, -1, 7, "nodes"}, {-inf, inf, 7, "deep"}, {math.Copysign(0, -1), inf, 7, "deep"},
	} {
		if f, e, at, word := File(text, c.deep, c.nodes); e != api.ErrLimit || at != c.at || word != c.word || !same(f, api.File{}) {
			t.Error(c, f, e, at, word)
		}
	}
	if _, e, _, _ := File(text, 3, 7); e != api.OK {
		t.Error(e)
	}
}

func TestFirstErrorInTheText(t *testing.T) {
	for text, want := range map[string]struct {
		e  api.Errno
		at int
	}{
		"(file () (foo (sort 0)))":   {api.ErrParse, 10},
		"(file () (refl (foo 0)))":   {api.ErrLimit, 15},
		"(file () (refl $":           {api.ErrParse, 15},
		"(file () (refl (sort $":     {api.ErrLimit, 15},
		"(file ((refl x)) (sort 0))": {api.ErrParse, 13},
	} {
		if _, e, at, _ := File(text, 1, inf); e != want.e || at != want.at {
			t.Error(text, e, at)
		}
	}
}

func TestDeepText(t *testing.T) {
	k := 1<<16 - 1
	text := "(file () " + strings.Repeat("(sym ", k) + "(var 0)" + strings.Repeat(")", k+1)
	if f, e, _, _ := File(text, 1<<16, 1<<16); e != api.OK || deriv.Deep(f.D) != 1<<16 {
		t.Error(e)
	}
	if _, e, at, word := File(text, 1<<16-1, inf); e != api.ErrLimit || word != "deep" || at != 9+5*k {
		t.Error(e, at, word)
	}
}
