package check

import (
	"math"
	"slices"
	"testing"

	"tranship/api"
	"tranship/ctx"
	"tranship/parse"
	"tranship/read"
	"tranship/write"
)

var inf, nan = math.Inf(1), math.NaN()

func file(t *testing.T, text string) api.File {
	f, e, at, _ := parse.File(text, inf, inf)
	if e != api.OK {
		t.Fatal(text, e, at)
	}
	return f
}

func m(t *testing.T, text string, n int) api.Term {
	x, e, at := read.Read(text, write.Names(n), 0, 0)
	if e != api.OK {
		t.Fatal(text, e, at)
	}
	return x
}

const base = "(file ((sort 0) (var 0)) "

func TestFile(t *testing.T) {
	for _, row := range []struct {
		d, u, v, a string
		i          int
	}{
		{"(var 0)", "v1", "", "v0", 0},
		{"(var 1)", "v0", "", "(sort 0)", 1},
		{"(pi (var 1) (var 2))", "(pi 0 0 x v0 v0)", "", "(sort 0)", 1},
		{"(lam (var 1) (var 0))", "(lam 0 0 x v0 v0 x)", "", "(pi 0 0 x v0 v0)", 0},
		{"(app (lam (var 1) (var 0)) (var 0))", "(app 0 0 x v0 v0 (lam 0 0 x v0 v0 x) v1)", "", "v0", 0},
		{"(beta (var 0) (var 0))", "(app 0 0 x v0 v0 (lam 0 0 x v0 v0 x) v1)", "v1", "v0", 0},
		{"(lam (eq (var 0) (var 0)) (reflect (var 0)))", "", "", "", 0},
		{"(sym (same (refl (var 0))))", "(refl 0 v0 v1)", "(refl 0 v0 v1)", "(eq 0 v0 v1 v1)", 0},
		{"(pair (var 0) (eq (var 0) (var 1)) (refl (var 0)))", "(pair 0 0 x v0 (eq 0 v0 x v1) v1 (refl 0 v0 v1))", "", "(sig 0 0 x v0 (eq 0 v0 x v1))", 0},
		{"(repl (same (var 0)) (refl (var 0)))", "(refl 0 v0 v1)", "(refl 0 v0 v1)", "(eq 0 v0 v1 v1)", 0},
	} {
		c, j, e, path := File(file(t, base+row.d+")"), inf)
		if row.u == "" {
			if e != api.ErrRule || !slices.Equal(path, []int{1}) || len(c) > 0 || !ctx.SameJudg(j, api.Judg{}) {
				t.Error(row.d, e, path)
			}
			continue
		}
		want := api.Judg{U: m(t, row.u, 2), A: m(t, row.a, 2), I: row.i}
		if row.v != "" {
			want.Equal, want.V = true, m(t, row.v, 2)
		}
		if e != api.OK || len(path) > 0 || !ctx.SameJudg(j, want) {
			t.Error(row.d, j, e, path)
		}
		if len(c) != 2 || c[0].I != 1 || c[1].I != 0 || write.Write(c[0].A, 0) != "(sort 0)" || write.Write(c[1].A, 1) != "v0" {
			t.Error("context", c)
		}
		direct, e, _ := Judge(c, file(t, base+row.d+")").D, inf)
		if e != api.OK || !ctx.SameJudg(direct, want) {
			t.Error("Judge", row.d)
		}
	}
}

func TestErrors(t *testing.T) {
	for _, row := range []struct {
		text string
		most float64
		e    api.Errno
		path []int
	}{
		{"(file () (sort 0))", 1, api.ErrLimit, []int{1}},
		{"(file () (sort 0))", nan, api.ErrLimit, []int{1}},
		{"(file () (sort 0))", 1.9, api.ErrLimit, []int{1}},
		{"(file () (sort 901))", 0, api.ErrRule, []int{1}},
		{"(file () (var 0))", inf, api.ErrRule, []int{1}},
		{"(file ((sort 0)) (sort 0))", 1, api.ErrLimit, []int{0, 0}},
		{"(file ((sort 0) (var 1)) (sort 0))", inf, api.ErrRule, []int{0, 1}},
		{"(file ((sort 0) (var 0) (var 0)) (sort 0))", inf, api.ErrRule, []int{0, 2}},
		{"(file ((sort 0) (same (var 0))) (sort 0))", inf, api.ErrRule, []int{0, 1}},
		{"(file ((sort 0) (pi (var 0) (var 3))) (sort 0))", inf, api.ErrRule, []int{0, 1, 1}},
		{"(file () (pi (sort 0) (pi (sort 0) (var 2))))", inf, api.ErrRule, []int{1, 1, 1}},
		{"(file () (pi (sort 0) (eq (var 0) (sort 0))))", inf, api.ErrRule, []int{1, 1}},
		{"(file () (pi (same (sort 0)) (var 9)))", inf, api.ErrRule, []int{1}},
		{"(file () (pi (sym (sort 0)) (var 9)))", inf, api.ErrRule, []int{1, 0}},
		{"(file () (pi (sort 0) (var 0)))", 3, api.ErrLimit, []int{1}},
		{"(file () (pi (sort 0) (pi (var 0) (var 1))))", 3, api.ErrLimit, []int{1, 1}},
		{"(file () (same (sort 0)))", 2, api.ErrLimit, []int{1}},
		{"(file () (app (sort 0) (var 0)))", inf, api.ErrRule, []int{1, 1}},
		{"(file () (app (sort 0) (sort 0)))", 2, api.ErrRule, []int{1}},
	} {
		c, j, e, path := File(file(t, row.text), row.most)
		if e != row.e || !slices.Equal(path, row.path) || len(c) > 0 || !ctx.SameJudg(j, api.Judg{}) {
			t.Error(row.text, c, j, e, path)
		}
		f := file(t, row.text)
		if row.path[0] == 0 {
			if c, e, path := Ctx(f.Ctx, row.most); e != row.e || !slices.Equal(path, row.path[1:]) || len(c) > 0 {
				t.Error("Ctx", row.text, e, path)
			}
		} else if j, e, path := Judge(nil, f.D, row.most); e != row.e || !slices.Equal(path, row.path[1:]) || !ctx.SameJudg(j, api.Judg{}) {
			t.Error("Judge", row.text, e, path)
		}
	}
	for _, row := range []string{"(file () (sort 0))", "(file () (pi (sort 0) (var 0)))", "(file () (same (sort 0)))"} {
		sizes := map[string]float64{"(file () (sort 0))": 2, "(file () (pi (sort 0) (var 0)))": 4, "(file () (same (sort 0)))": 3}
		if _, _, e, _ := File(file(t, row), sizes[row]); e != api.OK {
			t.Error(row, e)
		}
	}
}

func TestArguments(t *testing.T) {
	good, bad := api.Deriv{Rule: api.DSort}, api.Deriv{Rule: api.DRefl}
	sort := api.Term{Kind: api.Sort}
	tr := api.Term{Kind: api.Tr, Kids: []api.Term{sort, sort, sort, sort}}
	for i, c := range [][]api.Entry{{{A: tr, I: 1}}, {{A: api.Term{Kind: api.Var}}}, {{}}, {{A: sort, I: -1}}} {
		if j, e, path := Judge(c, good, inf); e != api.ErrArg || len(path) > 0 || j.I != 0 {
			t.Error(i, e, path)
		}
	}
	if _, e, path := Judge(nil, bad, nan); e != api.ErrArg || len(path) > 0 {
		t.Error(e, path)
	}
	if _, e, path := Ctx([]api.Deriv{{Rule: api.DSort, I: 901}, bad}, inf); e != api.ErrArg || len(path) > 0 {
		t.Error(e, path)
	}
	for i, f := range []api.File{{Ctx: []api.Deriv{bad}, D: good}, {Ctx: []api.Deriv{{Rule: api.DSort, I: 901}}, D: bad}, {D: bad}, {}} {
		if c, _, e, path := File(f, inf); e != api.ErrArg || len(path) > 0 || len(c) > 0 {
			t.Error(i, e, path)
		}
	}
	if c, e, _ := Ctx(nil, nan); e != api.OK || len(c) > 0 {
		t.Error("empty")
	}
}

func TestGreaterAllowances(t *testing.T) {
	f := file(t, base+"(xlam (same (var 1)) (same (var 2)) (eta (lam (var 2) (var 0))))"+")")
	g := file(t, base+"(xlam (same (var 1)) (same (pi (var 2) (var 3))) (eta (lam (var 2) (var 0))))"+")")
	if _, _, e, path := File(f, inf); e != api.ErrRule || !slices.Equal(path, []int{1}) {
		t.Error(e, path)
	}
	before := api.ErrLimit
	for most := 0.0; most < 60; most++ {
		_, _, e, _ := File(g, most)
		if before == api.OK && e != api.OK || e != api.OK && e != api.ErrLimit {
			t.Error(most, e)
		}
		before = e
	}
	if before != api.OK {
		t.Error("never")
	}
}
