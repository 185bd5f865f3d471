package drive

import (
	"math"
	"slices"
	"strings"
	"testing"

	"tranship/api"
	"tranship/result"
)

var inf, nan = math.Inf(1), math.NaN()

var all = api.Limits{Bytes: inf, Deep: inf, Nodes: inf, Size: inf, Fuel: inf}

func same(a, b api.Outcome) bool {
	return a.Kind == b.Kind && a.At == b.At && slices.Equal(a.Path, b.Path) && a.Word == b.Word && a.Text == b.Text
}

const base = "((sort 0) (sort 0) (eq (var 1) (var 0)) (var 2)) "

func TestFine(t *testing.T) {
	for b, want := range map[string]string{
		"(file () (sort 0))":                   "(term () 2 (sort 0) (sort 1))\n",
		" (file ;x\n () (sort 0) ) ":           "(term () 2 (sort 0) (sort 1))\n",
		"(file ((sort 0) (var 0)) (var 0))":    "(term (1 (sort 0) 0 v0) 0 v1 v0)\n",
		"(file () (lam (sort 3) (var 0)))":     "(term () 4 (lam 4 4 v0 (sort 3) (sort 3) v0) (pi 4 4 v0 (sort 3) (sort 3)))\n",
		"(file () (same (sort 0)))":            "(equal () 2 (sort 1) (sort 0) (sort 1) (sort 0) (Refl (Sig v0 (sort 2) v0) (Pair v0 (sort 2) v0 (sort 1) (sort 0))))\n",
		"(file " + base + "(reflect (var 1)))": "(equal (1 (sort 0) 1 (sort 0) 1 (eq 1 (sort 0) v0 v1) 0 v0) 1 (sort 0) v0 (sort 0) v1 (use e2h 1 0 (sort 0) v0 v1 v2))\n",
	} {
		if got := Run(b, all); !same(got, api.Outcome{Kind: api.Fine, Text: want}) {
			t.Error(b, got)
		}
	}
	for _, d := range []string{"(conv (var 0) (reflect (var 1)))", "(refl (conv (var 0) (reflect (var 1))))", "(convs (same (var 0)) (reflect (var 1)))", "(lam (var 3) (conv (var 0) (reflect (var 2))))"} {
		got := Run("(file "+base+d+")", all)
		r, e, _ := result.Read(got.Text)
		if got.Kind != api.Fine || e != api.OK || result.Verify(r, 1000) != api.OK || !strings.Contains(got.Text, "(tr 0 v0 v1 ") {
			t.Error(d, got)
		}
	}
}

func TestOutcomes(t *testing.T) {
	limits := func(change func(l *api.Limits)) api.Limits {
		l := all
		change(&l)
		return l
	}
	for _, r := range []struct {
		b    string
		l    api.Limits
		want api.Outcome
	}{
		{"(file () (sort 0)", limits(func(l *api.Limits) { l.Bytes = 16 }), api.Outcome{Kind: api.Limit, Word: "bytes"}},
		{"(file () (sort 0)", limits(func(l *api.Limits) { l.Bytes = 17 }), api.Outcome{Kind: api.Parse, At: 17}},
		{"", limits(func(l *api.Limits) { l.Bytes = nan }), api.Outcome{Kind: api.Limit, Word: "bytes"}},
		{"", limits(func(l *api.Limits) { l.Bytes = math.Copysign(0, -1) }), api.Outcome{Kind: api.Parse}},
		{"\xff", all, api.Outcome{Kind: api.Parse}},
		{"(file () (sort))", all, api.Outcome{Kind: api.Parse, At: 14}},
		{"(file () (sort 0))", limits(func(l *api.Limits) { l.Deep = 0 }), api.Outcome{Kind: api.Limit, Word: "deep"}},
		{"(file () (refl (sort 0)))", limits(func(l *api.Limits) { l.Deep = 1 }), api.Outcome{Kind: api.Limit, Word: "deep"}},
		{"(file () (refl (sort 0)))", limits(func(l *api.Limits) { l.Nodes = 1 }), api.Outcome{Kind: api.Limit, Word: "nodes"}},
		{"(file () (refl (sort 0)))", limits(func(l *api.Limits) { l.Nodes, l.Deep = 1, 1 }), api.Outcome{Kind: api.Limit, Word: "deep"}},
		{"(file () (refl (sort 0) x))", limits(func(l *api.Limits) { l.Nodes = 1 }), api.Outcome{Kind: api.Limit, Word: "nodes"}},
		{"(file () (sort 901))", all, api.Outcome{Kind: api.Rule, Path: []int{1}, Word: "sort"}},
		{"(file () (refl (var 0)))", all, api.Outcome{Kind: api.Rule, Path: []int{1, 0}, Word: "var"}},
		{"(file ((sort 0) (var 1)) (sort 0))", all, api.Outcome{Kind: api.Rule, Path: []int{0, 1}, Word: "var"}},
		{"(file ((sort 0) (pi (var 0) (app (var 0) (var 1)))) (sort 0))", all, api.Outcome{Kind: api.Rule, Path: []int{0, 1, 1}, Word: "app"}},
		{"(file ((refl (sort 0))) (sort 0))", all, api.Outcome{Kind: api.Rule, Path: []int{0, 0}, Word: "refl"}},
		{"(file () (conv (sort 0) (same (sort 0))))", all, api.Outcome{Kind: api.Rule, Path: []int{1}, Word: "conv"}},
		{"(file () (sort 0))", limits(func(l *api.Limits) { l.Size = 1 }), api.Outcome{Kind: api.Limit, Word: "size"}},
		{"(file () (sort 901))", limits(func(l *api.Limits) { l.Size = 1 }), api.Outcome{Kind: api.Rule, Path: []int{1}, Word: "sort"}},
		{"(file () (same (sort 0)))", limits(func(l *api.Limits) { l.Size = 4 }), api.Outcome{Kind: api.Limit, Word: "size"}},
		{"(file ((sort 0) (var 0)) (beta (var 0) (var 0)))", limits(func(l *api.Limits) { l.Fuel = 0 }), api.Outcome{Kind: api.Limit, Word: "fuel"}},
		{"(file () (sort 901))", limits(func(l *api.Limits) { l.Fuel = 0 }), api.Outcome{Kind: api.Rule, Path: []int{1}, Word: "sort"}},
	} {
		if got := Run(r.b, r.l); !same(got, r.want) {
			t.Error(r.b, r.l, got)
		}
	}
}

// TestGreaterLimits gives one limit after the other more and more.
func TestGreaterLimits(t *testing.T) {
	b := "(file " + base + "(xpi (reflect (var 1)) (same (eq (conv (var 1) (trans (reflect (var 2)) (sym (reflect (var 2))))) (var 1)))))"
	fine := Run(b, all)
	if fine.Kind != api.Fine {
		t.Fatal(fine)
	}
	for k, word := range []string{"bytes", "deep", "nodes", "size", "fuel"} {
		seen := 0
		for f := -1.0; ; f = max(f+1, f*1.4) {
			l := all
			*[]*float64{&l.Bytes, &l.Deep, &l.Nodes, &l.Size, &l.Fuel}[k] = f
			got := Run(b, l)
			if got.Kind == api.Fine {
				if !same(got, fine) {
					t.Error(word, f)
				}
				break
			}
			if !same(got, api.Outcome{Kind: api.Limit, Word: word}) {
				t.Error(word, f, got)
				break
			}
			seen++
		}
		if seen == 0 {
			t.Error("never", word)
		}
	}
	if got := Run(b, api.Limits{}); !same(got, api.Outcome{Kind: api.Limit, Word: "bytes"}) {
		t.Error(got)
	}
}

// TestAnyBytes changes, cuts and doubles bytes: there is one outcome, which is none that never occurs.
func TestAnyBytes(t *testing.T) {
	b := "(file " + base + "(refl (conv (var 0) (reflect (var 1)))))"
	seed := uint64(29)
	below := func(n int) int {
		seed = seed*6364136223846793005 + 1442695040888963407
		return int(seed>>33) % n
	}
	kinds := map[int]int{}
	for range 3000 {
		x := []byte(b)
		for range 1 + below(3) {
			k := below(len(x))
			switch below(4) {
			case 0:
				x[k] = byte(below(256))
			case 1:
				x = slices.Delete(x, k, k+1)
			case 2:
				x[k] = "()0123 vsr"[below(10)]
			default:
				x = slices.Insert(x, k, x[below(len(x))])
			}
		}
		o := Run(string(x), api.Limits{Bytes: 1e4, Deep: 50, Nodes: 200, Size: 1e5, Fuel: 1e5})
		kinds[o.Kind]++
		if o.Kind < api.Fine || o.Kind > api.Limit || (o.Kind == api.Fine) != (o.Text != "") || (o.Kind == api.Rule) != (len(o.Path) > 0) {
			t.Error(string(x), o)
		}
	}
	if kinds[api.Fine] == 0 || kinds[api.Parse] == 0 || kinds[api.Rule] == 0 {
		t.Error(kinds)
	}
}
