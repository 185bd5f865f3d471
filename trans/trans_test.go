package trans

import (
	"math"
	"slices"
	"testing"

	"tranship/api"
	"tranship/check"
	"tranship/conv"
	"tranship/ctx"
	"tranship/deriv"
	"tranship/erase"
	"tranship/het"
	"tranship/kernel"
	"tranship/mark"
	"tranship/naive"
	"tranship/parse"
	"tranship/rule"
	"tranship/show"
	"tranship/strip"
	"tranship/subst"
	"tranship/term"
)

var inf = math.Inf(1)

func file(t *testing.T, text string) api.File {
	f, e, at, _ := parse.File(text, inf, inf)
	if e != api.OK {
		t.Fatal(text, e, at)
	}
	return f
}

// The context: two equal types, elements of the first one, equal ones, a family, a function and a pair.
const base = `((sort 0) (sort 0) (eq (var 1) (var 0)) (var 2) (var 3) (eq (var 1) (var 0)) (pi (var 5) (sort 0))
(pi (var 6) (app (var 1) (var 0))) (sig (var 7) (app (var 2) (var 0))) (pi (sort 0) (eq (var 0) (var 0))))`

// moved is another one, in which the types of some entries stand behind transports by a proof of which nothing is known.
const moved = `((eq (sort 0) (sort 0)) (sort 0) (conv (sort 0) (reflect (conv (refl (sort 1)) (same (eq (sort 1) (sort 1))))))
(eq (var 1) (conv (var 0) (reflect (var 2)))) (conv (var 2) (reflect (var 3))) (var 3) (conv (eq (var 1) (var 0)) (reflect (var 5)))
(pi (conv (var 5) (reflect (var 6))) (sort 0)) (pi (var 6) (conv (app (var 1) (var 0)) (reflect (var 8)))) (sig (conv (var 7) (reflect (var 8))) (app (var 2) (var 0))))`

// good holds a translation against the promises.
func good(t *testing.T, c []api.Entry, d api.Deriv) {
	j, e, _ := check.Judge(ctx.Erase(c), d, inf)
	if e != api.OK {
		t.Fatal("not checked", show.Deriv(d))
	}
	if j.Equal {
		goodEqual(t, c, d, j)
		return
	}
	x, a, i, e, path := Term(c, d, inf)
	if e != api.OK || len(path) > 0 || i != j.I || !term.Same(erase.Erase(x), j.U) || !term.Same(erase.Erase(a), j.A) {
		t.Fatal("term", show.Deriv(d), e, path)
	}
	has(t, c, x, a, i, d)
}

func has(t *testing.T, c []api.Entry, x, a api.Term, i int, d api.Deriv) {
	is, level, e := mark.Type(c, x, 1e6)
	if e != api.OK || level != i {
		t.Fatal("mark", e, level, show.Deriv(d))
	}
	if same, e := conv.Same(strip.Strip(is), strip.Strip(a), 1e6); !same || e != api.OK {
		t.Fatal("type", e, show.Deriv(d))
	}
	if s, level, e := mark.Type(c, a, 1e6); e != api.OK || level != i+1 || s.Kind == 0 {
		t.Fatal("type of the type", e, level, show.Deriv(d))
	}
}

func goodEqual(t *testing.T, c []api.Entry, d api.Deriv, j api.Judg) {
	x, e, path := Same(c, d, inf)
	if e != api.OK || len(path) > 0 || x.I != j.I {
		t.Fatal("equal", show.Deriv(d), e, path)
	}
	for k, p := range [][2]api.Term{{x.A, j.A}, {x.B, j.A}, {x.U, j.U}, {x.V, j.V}} {
		if !term.Same(erase.Erase(p[0]), p[1]) {
			t.Fatal("erasure", k, show.Deriv(d))
		}
	}
	has(t, c, x.U, x.A, x.I, d)
	has(t, c, x.V, x.B, x.I, d)
	h := het.Het{I: x.I, A: strip.Strip(x.A), B: strip.Strip(x.B), X: strip.Strip(x.U), Y: strip.Strip(x.V), H: x.H}
	if e := kernel.Check(ctx.Plain(c), x.H, het.Type(h), 1e6); e != api.OK {
		t.Fatal("kernel", e, show.Deriv(d))
	}
}

// made is a derivation with its judgment.
type made struct {
	d api.Deriv
	j api.Judg
}

// maker makes derivations at random; it holds those of every context where it has been.
type maker struct {
	r     naive.Random
	pools map[string][]made
}

func key(c []api.Entry) string {
	s := ""
	for _, e := range c {
		s += string(rune('a'+e.I)) + writeKey(e.A)
	}
	return s
}

func writeKey(t api.Term) string {
	s := string(rune('A'+t.Kind)) + string(rune('0'+t.I)) + string(rune('0'+t.J))
	for _, k := range t.Kids {
		s += writeKey(k)
	}
	return s
}

// pool makes derivations in a context.
func (m *maker) pool(c []api.Entry, tries, depth int) []made {
	k := key(c)
	if l, ok := m.pools[k]; ok {
		return l
	}
	var l []made
	add := func(d api.Deriv, j api.Judg) {
		size := term.Size(j.U) + term.Size(j.A) + term.Size(j.V)
		if size > 150 || deriv.Nodes(d) > 100 {
			return
		}
		for _, x := range l {
			if ctx.SameJudg(x.j, j) && x.d.Rule == d.Rule {
				return
			}
		}
		l = append(l, made{d, j})
	}
	for i := range c {
		j, _ := rule.Of(c, api.DVar, i, nil)
		add(api.Deriv{Rule: api.DVar, I: i}, j)
	}
	j, _ := rule.Of(c, api.DSort, 0, nil)
	add(api.Deriv{Rule: api.DSort}, j)
	m.pools[k] = l
	for range tries {
		d := api.Deriv{Rule: 3 + m.r.Below(26)}
		if m.r.Below(2) == 0 {
			d.Rule = []int{api.DConv, api.EReflect, api.DApp, api.ELam, api.EPair, api.EConv, api.ERepl}[m.r.Below(7)]
		}
		if j, ok := m.node(c, l, &d, tries, depth); ok {
			add(d, j)
		}
	}
	m.pools[k] = l
	return l
}

// node chooses premises that fit.
func (m *maker) node(c []api.Entry, l []made, d *api.Deriv, tries, depth int) (api.Judg, bool) {
	var on []api.Judg
	for k := range deriv.Kids(d.Rule) {
		from := l
		if deriv.Inner(d.Rule, k) {
			inner, ok := rule.Premise(c, d.Rule, k, on)
			if !ok || depth == 0 {
				return api.Judg{}, false
			}
			if _, ok = m.pools[key(inner)]; !ok && len(m.pools) > 60 {
				return api.Judg{}, false
			}
			from = m.pool(inner, tries/4, depth-1)
		}
		var fit []made
		for _, x := range from {
			if fits(d.Rule, k, on, x.j) {
				fit = append(fit, x)
				if converts(x.d) {
					fit = append(fit, x, x)
				}
			}
		}
		if len(fit) == 0 {
			return api.Judg{}, false
		}
		x := fit[m.r.Below(len(fit))]
		d.Kids, on = append(d.Kids, x.d), append(on, x.j)
	}
	return rule.Of(c, d.Rule, 0, on)
}

// converts tells whether a derivation uses an equality of types.
func converts(d api.Deriv) bool {
	return d.Rule == api.DConv || d.Rule == api.EConv || slices.ContainsFunc(d.Kids, converts)
}

// fits tells whether a judgment may be a premise of a rule, behind others.
func fits(r, k int, on []api.Judg, j api.Judg) bool {
	isType := j.A.Kind == api.Sort
	switch r {
	case api.DPi, api.DSig:
		return !j.Equal && isType
	case api.DLam:
		return !j.Equal && (isType || k == 1)
	case api.DApp:
		return !j.Equal && (k == 0 && j.A.Kind == api.Pi || k == 1 && term.Same(j.A, on[0].A.Kids[0]))
	case api.DPair, api.EFirst, api.ESecond:
		return !j.Equal && (k == 0 || k == 1 && isType || k == 2 && term.Same(j.A, subst.Put(on[1].U, on[0].U)))
	case api.DFst, api.DSnd, api.ESurj:
		return !j.Equal && j.A.Kind == api.Sig
	case api.EEta:
		return !j.Equal && j.A.Kind == api.Pi
	case api.EReflect:
		return !j.Equal && j.A.Kind == api.Eq
	case api.DEq, api.EIrr:
		return !j.Equal && (r == api.DEq || j.A.Kind == api.Eq) && (k == 0 || term.Same(j.A, on[0].A))
	case api.DConv, api.EConv:
		if k == 0 {
			return j.Equal == (r == api.EConv)
		}
		return j.Equal && isType && term.Same(j.U, on[0].A) && !term.Same(j.U, j.V)
	case api.ESym:
		return j.Equal && !term.Same(j.U, j.V)
	case api.ETrans:
		return j.Equal && !term.Same(j.U, j.V) && (k == 0 || term.Same(j.U, on[0].V) && term.Same(j.A, on[0].A))
	case api.ERepl:
		return j.Equal == (k == 0) && (k == 1 || !term.Same(j.U, j.V))
	case api.EPi, api.ESig:
		return j.Equal && isType
	case api.ELam:
		return j.Equal && (k < 2 && isType || k == 2 && term.Same(j.A, on[1].U))
	case api.EPair:
		return k < 2 && j.Equal && isType || k == 2 && !j.Equal && term.Same(j.A, on[0].U) || k == 3 && !j.Equal && term.Same(j.A, subst.Put(on[1].U, on[2].U))
	}
	return !j.Equal
}

func TestRandomDerivations(t *testing.T) {
	count := map[int]int{}
	for _, text := range []string{base, moved} {
		c, e, path := Ctx(file(t, "(file "+text+" (sort 0))").Ctx, inf)
		if e != api.OK {
			t.Fatal(e, path)
		}
		if e := mark.Ctx(c, 1e5); e != api.OK {
			t.Fatal("context", e)
		}
		for seed := range uint64(3) {
			m := maker{r: naive.Random{Seed: seed}, pools: map[string][]made{}}
			for _, x := range m.pool(ctx.Erase(c), 1500, 3) {
				count[x.d.Rule]++
				good(t, c, x.d)
			}
		}
	}
	for rule := 1; rule <= 28; rule++ {
		if count[rule] < 2 {
			t.Error("too few", deriv.Word(rule), count[rule])
		}
	}
}

// deep makes a derivation with conversions within types within conversions.
const deep = "(file " + base + " (app (var 2) (conv (conv (var 6) (reflect (var 7))) (sym (reflect (var 7))))))"

func TestTransports(t *testing.T) {
	f := file(t, deep)
	c, e, _ := Ctx(f.Ctx, inf)
	x, a, i, e2, _ := Term(c, f.D, inf)
	if e != api.OK || e2 != api.OK || i != 0 || erase.Count(x) < 2 || erase.Count(a) < 2 || x.Kind != api.App {
		t.Fatal(e, e2, x)
	}
	good(t, c, f.D)
	f = file(t, "(file "+moved+" (sort 0))")
	c, e, _ = Ctx(f.Ctx, inf)
	n := 0
	for _, x := range c {
		n += erase.Count(x.A)
	}
	if e != api.OK || n < 10 {
		t.Error("moved", e, n)
	}
	erased, e, _ := check.Ctx(f.Ctx, inf)
	if e != api.OK || !ctx.Same(ctx.Erase(c), erased) {
		t.Error("erasure", e)
	}
	for k := range c {
		if c[k].I != erased[k].I {
			t.Error(k)
		}
	}
	conv := file(t, "(file ((sort 0) (var 0)) (conv (var 0) (same (var 1))))")
	c, _, _ = Ctx(conv.Ctx, inf)
	if x, _, _, e, _ := Term(c, conv.D, inf); e != api.OK || x.Kind != api.Tr {
		t.Error("a conversion is a Tr", x, e)
	}
}

// TestPure has derivations without conversions in a context without transports.
func TestPure(t *testing.T) {
	c, _, _ := Ctx(file(t, "(file "+base+" (sort 0))").Ctx, inf)
	m := maker{r: naive.Random{Seed: 27}, pools: map[string][]made{}}
	n := 0
	for _, x := range m.pool(c, 1000, 2) {
		if x.j.Equal || uses(x.d, api.DConv) {
			continue
		}
		u, a, i, e, _ := Term(c, x.d, inf)
		if n++; e != api.OK || i != x.j.I || !term.Same(u, x.j.U) || !term.Same(a, x.j.A) {
			t.Error(show.Deriv(x.d), e)
		}
	}
	if n < 50 {
		t.Error(n)
	}
	if x, a, i, e, path := Term(nil, api.Deriv{Rule: api.DSort}, inf); e != api.OK || len(path) > 0 || i != 2 || x.Kind != api.Sort || x.I != 0 || a.Kind != api.Sort || a.I != 1 {
		t.Error(x, a, i, e)
	}
}

func uses(d api.Deriv, rule int) bool {
	return d.Rule == rule || slices.ContainsFunc(d.Kids, func(k api.Deriv) bool { return uses(k, rule) })
}

// TestWrongContexts has contexts whose marks are not right: there has to be a term all the same.
func TestWrongContexts(t *testing.T) {
	c, _, _ := Ctx(file(t, "(file "+base+" (sort 0))").Ctx, inf)
	m := maker{r: naive.Random{Seed: 28}, pools: map[string][]made{}}
	l := m.pool(c, 800, 2)
	for range 3 {
		d := slices.Clone(c)
		for k := range d {
			d[k].A = senseless(&m.r, d[k].A)
		}
		for _, x := range l {
			if !x.j.Equal {
				u, a, i, e, _ := Term(d, x.d, inf)
				if e != api.OK || i != x.j.I || !term.Same(erase.Erase(u), x.j.U) || !term.Same(erase.Erase(a), x.j.A) {
					t.Fatal(show.Deriv(x.d), e)
				}
				continue
			}
			q, e, _ := Same(d, x.d, inf)
			if e != api.OK || q.I != x.j.I || !term.Same(erase.Erase(q.U), x.j.U) || !term.Same(erase.Erase(q.V), x.j.V) || !term.Same(erase.Erase(q.A), x.j.A) || !term.Same(erase.Erase(q.B), x.j.A) || !term.Plain(q.H) {
				t.Fatal(show.Deriv(x.d), e)
			}
		}
	}
}

// senseless puts Trs without sense around parts of a term.
func senseless(r *naive.Random, x api.Term) api.Term {
	kids := slices.Clone(x.Kids)
	for k := range kids {
		kids[k] = senseless(r, kids[k])
	}
	x.Kids = kids
	if r.Below(3) == 0 {
		return transport(r.Below(4), sort(1), sort(2), sort(3), x)
	}
	return x
}

func TestErrors(t *testing.T) {
	c, _, _ := Ctx(file(t, "(file "+base+" (sort 0))").Ctx, inf)
	for _, r := range []struct {
		d     string
		e, e2 api.Errno
		path  []int
	}{
		{"(sort 0)", api.OK, api.ErrRule, nil}, {"(same (sort 0))", api.ErrRule, api.OK, nil}, {"(sort 901)", api.ErrRule, api.ErrRule, nil}, {"(var 10)", api.ErrRule, api.ErrRule, nil},
		{"(pi (var 9) (var 11))", api.ErrRule, api.ErrRule, []int{1}}, {"(same (sym (var 0)))", api.ErrRule, api.ErrRule, []int{0}}, {"(conv (var 6) (reflect (var 6)))", api.ErrRule, api.ErrRule, []int{1}},
	} {
		d := file(t, "(file () "+r.d+")").D
		x, a, i, e, path := Term(c, d, inf)
		if e != r.e || e != api.OK && (x.Kind != 0 || a.Kind != 0 || i != 0 || !slices.Equal(path, r.path)) {
			t.Error(r.d, e, path)
		}
		q, e, path := Same(c, d, inf)
		if e != r.e2 || e != api.OK && (q.I != 0 || q.U.Kind != 0 || q.H.Kind != 0 || !slices.Equal(path, r.path)) {
			t.Error("Same", r.d, e, path)
		}
	}
	good, bad := api.Deriv{Rule: api.DSort}, api.Deriv{Rule: api.DRefl}
	tr := transport(0, sort(0), sort(0), sort(951), sort(0))
	for i, r := range []struct {
		c []api.Entry
		d api.Deriv
	}{{nil, bad}, {[]api.Entry{{A: variable(0)}}, good}, {[]api.Entry{{A: sort(951), I: 1}}, good}, {[]api.Entry{{A: sort(0), I: 951}}, good}, {[]api.Entry{{A: tr, I: 1}}, good}, {[]api.Entry{{}}, good}} {
		if x, _, _, e, path := Term(r.c, r.d, math.NaN()); e != api.ErrArg || len(path) > 0 || x.Kind != 0 {
			t.Error(i, e, path)
		}
		if q, e, path := Same(r.c, r.d, math.NaN()); e != api.ErrArg || len(path) > 0 || q.U.Kind != 0 {
			t.Error(i, e, path)
		}
	}
	if _, _, _, e, _ := Term([]api.Entry{{A: sort(950), I: 950}}, good, inf); e != api.OK {
		t.Error("950", e)
	}
}

func TestCtxErrors(t *testing.T) {
	for _, r := range []struct {
		text string
		most float64
		e    api.Errno
		path []int
	}{
		{"()", math.NaN(), api.OK, nil}, {"((sort 0) (var 0))", inf, api.OK, nil}, {"((sort 0) (var 1))", inf, api.ErrRule, []int{1}}, {"((sort 0) (var 0) (var 0))", inf, api.ErrRule, []int{2}},
		{"((sort 0) (same (var 0)))", inf, api.ErrRule, []int{1}}, {"((sort 0) (pi (var 0) (var 3)))", inf, api.ErrRule, []int{1, 1}}, {"((sort 0))", 1, api.ErrLimit, []int{0}}, {"((refl (sort 0)))", inf, api.ErrRule, []int{0}},
		{"((sort 0) (eq (var 0) (var 0)))", 4, api.ErrLimit, []int{1}}, {"((sort 0) (eq (var 0) (var 0)))", 5, api.OK, nil},
	} {
		l := file(t, "(file "+r.text+" (sort 0))").Ctx
		c, e, path := Ctx(l, r.most)
		if e != r.e || !slices.Equal(path, r.path) || e != api.OK && len(c) > 0 || e == api.OK && len(c) != len(l) {
			t.Error(r.text, r.most, c, e, path)
		}
	}
	if c, e, path := Ctx([]api.Deriv{{Rule: api.DSort, I: 901}, {}}, inf); e != api.ErrArg || len(path) > 0 || len(c) > 0 {
		t.Error(e, path)
	}
}

// TestLimits gives more and more, until it is enough.
func TestLimits(t *testing.T) {
	c, _, _ := Ctx(file(t, "(file "+moved+" (sort 0))").Ctx, inf)
	f := file(t, "(file () (refl (pair (var 5) (eq (var 0) (var 6)) (refl (var 5)))))")
	want, _, _, e, _ := Term(c, f.D, inf)
	if e != api.OK {
		t.Fatal(e)
	}
	limits := 0
	for most := 0.5; ; most *= 1.5 {
		x, a, i, e, path := Term(c, f.D, most)
		if e == api.OK {
			if !term.Same(x, want) || most < float64(term.Size(want)) {
				t.Error(most, "not the same")
			}
			break
		}
		if _, ok := deriv.At(f.D, path); e != api.ErrLimit || !ok || x.Kind != 0 || a.Kind != 0 || i != 0 {
			t.Error(most, e, path)
		}
		limits++
	}
	enough := 0.0
	for e = api.ErrLimit; e != api.OK; enough++ {
		_, e, _ = check.Judge(ctx.Erase(c), f.D, enough+1)
	}
	if _, _, _, e, _ := Term(c, f.D, enough); limits < 5 || e != api.ErrLimit {
		t.Error("the translation's own", limits, e)
	}
	for _, most := range []float64{math.NaN(), 0, -1, math.Inf(-1)} {
		if _, _, _, e, path := Term(c, f.D, most); e != api.ErrLimit || len(path) == 0 {
			t.Error(most, e, path)
		}
	}
}

// TestHighLevels has the greatest sorts that a derivation may have.
func TestHighLevels(t *testing.T) {
	for _, d := range []string{
		"(conv (var 0) (reflect (var 1)))", "(refl (conv (var 0) (reflect (var 1))))", "(eq (conv (var 0) (reflect (var 1))) (conv (var 0) (reflect (var 1))))", "(xpi (reflect (var 1)) (same (sort 900)))",
		"(xlam (reflect (var 1)) (same (sort 900)) (same (var 4)))", "(repl (reflect (var 1)) (refl (var 0)))", "(irr (refl (refl (sort 900))) (refl (refl (sort 900))))",
		"(xsig (reflect (var 1)) (same (pi (var 4) (sort 900))))", "(lam (sort 900) (eq (eq (var 0) (var 0)) (eq (var 0) (var 0))))", "(xpair (reflect (var 1)) (same (eq (var 0) (var 0))) (var 0) (refl (var 0)))",
	} {
		f := file(t, "(file ((sort 900) (sort 900) (eq (var 1) (var 0)) (var 2)) "+d+")")
		c, e, path := Ctx(f.Ctx, inf)
		if e != api.OK {
			t.Fatal(e, path)
		}
		good(t, c, f.D)
		c[0] = api.Entry{A: sort(949), I: 950}
		c = ctx.Add(c[:1], variable(0), 949)
		c = ctx.Add(c, variable(1), 949)
		c = ctx.Add(c, api.Term{Kind: api.Eq, I: 949, Kids: []api.Term{variable(2), variable(1), variable(0)}}, 949)
		if mark.Ctx(c, 100) != api.OK {
			t.Fatal("context")
		}
		for _, d := range []string{"(repl (reflect (var 0)) (refl (var 0)))", "(convs (reflect (var 0)) (same (var 3)))", "(irr (var 0) (conv (var 0) (repl (sym (reflect (var 0))) (eq (var 3) (var 2)))))", "(eta (lam (var 3) (eq (var 0) (var 2))))"} {
			d := file(t, "(file () "+d+")").D
			if _, e, _ := check.Judge(c, d, inf); e == api.OK {
				good(t, c, d)
			}
		}
	}
}
