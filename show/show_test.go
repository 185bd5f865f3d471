package show

import (
	"math"
	"strings"
	"testing"

	"tranship/api"
	"tranship/deriv"
	"tranship/parse"
)

func n(rule, i int, kids ...api.Deriv) api.Deriv { return api.Deriv{Rule: rule, I: i, Kids: kids} }

func TestDeriv(t *testing.T) {
	for want, d := range map[string]api.Deriv{
		"(sort 0)": n(api.DSort, 0), "(var 1000000)": n(api.DVar, 1000000),
		"(xlam (sort 1) (var 2) (sym (var 3)))": n(api.ELam, 0, n(api.DSort, 1), n(api.DVar, 2), n(api.ESym, 0, n(api.DVar, 3))),
		"":                                      n(api.DRefl, 0),
	} {
		if got := Deriv(d); got != want {
			t.Errorf("%q, not %q", got, want)
		}
	}
	for i, d := range []api.Deriv{{}, n(29, 0), n(api.DSort, -1), n(api.DSort, 1000001), n(api.DRefl, 1, n(api.DVar, 0)), n(api.DSort, 0, n(api.DVar, 0)), n(api.DRefl, 0, n(0, 0))} {
		if Deriv(d) != "" || File(api.File{D: d}) != "" || File(api.File{Ctx: []api.Deriv{n(api.DSort, 0), d}, D: n(api.DVar, 0)}) != "" {
			t.Error(i)
		}
	}
}

func TestFile(t *testing.T) {
	s, v := n(api.DSort, 0), n(api.DVar, 0)
	for want, f := range map[string]api.File{
		"(file () (sort 0))\n":                       {D: s},
		"(file ((sort 0)) (var 0))\n":                {Ctx: []api.Deriv{s}, D: v},
		"(file ((sort 0) (var 0)) (refl (var 0)))\n": {Ctx: []api.Deriv{s, v}, D: n(api.DRefl, 0, v)},
	} {
		if got := File(f); got != want {
			t.Errorf("%q, not %q", got, want)
		}
	}
}

func TestThereAndBack(t *testing.T) {
	inf := math.Inf(1)
	var all []api.Deriv
	for rule := 1; rule <= 28; rule++ {
		d := n(rule, 0)
		for i := 0; i < deriv.Kids(rule); i++ {
			d.Kids = append(d.Kids, n(1+i%2, 10*rule+i))
		}
		all = append(all, d)
	}
	f := api.File{Ctx: all, D: n(api.EPair, 0, all[27], all[2], all[0], all[26])}
	text := File(f)
	g, e, _, _ := parse.File(text, inf, inf)
	if e != api.OK || len(g.Ctx) != 28 || !deriv.Same(g.D, f.D) {
		t.Fatal(e)
	}
	for i := range all {
		if !deriv.Same(all[i], g.Ctx[i]) {
			t.Error(i)
		}
	}
	wide := strings.NewReplacer("(", " ( ", ")", ";r\n)\t").Replace(text)
	g, e, _, _ = parse.File(wide, inf, inf)
	if e != api.OK || File(g) != text {
		t.Error(e, File(g))
	}
}
