package deriv

import (
	"strings"
	"testing"

	"tranship/api"
	"tranship/lex"
)

// table has a row a rule: its word, and a letter for each premise (x: inner).
const table = `sort
var
pi ox
lam ox
app oo
sig ox
pair oxo
fst o
snd o
eq oo
refl o
conv oo
same o
sym o
trans oo
convs oo
reflect o
beta ox
first oxo
second oxo
eta o
surj o
repl ox
irr oo
xpi ox
xsig ox
xlam oxx
xpair oxoo`

func node(rule int) api.Deriv {
	d := api.Deriv{Rule: rule}
	for i := 0; i < Kids(rule); i++ {
		d.Kids = append(d.Kids, api.Deriv{Rule: api.DVar})
	}
	return d
}

func TestTable(t *testing.T) {
	for i, line := range strings.Split(table, "\n") {
		rule, l := i+1, append(strings.Fields(line), "")
		if Word(rule) != l[0] || Rule(l[0]) != rule || !lex.Name(l[0]) {
			t.Error(rule, Word(rule), Rule(l[0]))
		}
		if Kids(rule) != len(l[1]) || Equal(rule) != (rule >= 13) {
			t.Error(rule, Kids(rule), Equal(rule))
		}
		for kid := -1; kid < 6; kid++ {
			if Inner(rule, kid) != (kid >= 0 && kid < len(l[1]) && l[1][kid] == 'x') {
				t.Error(rule, kid)
			}
		}
	}
	for _, rule := range []int{-1, 0, 29, 1 << 40} {
		if Word(rule) != "" || Kids(rule) != -1 || Equal(rule) || Inner(rule, 1) {
			t.Error(rule)
		}
	}
	for _, w := range []string{"", "Sort", "xap", "xapp", "sort ", "file", "convert"} {
		if Rule(w) != 0 {
			t.Error(w)
		}
	}
}

func TestRight(t *testing.T) {
	for rule := 1; rule <= 28; rule++ {
		d := node(rule)
		if !Right(d) {
			t.Error(rule)
		}
		for n, want := range map[int]bool{-1: false, 1: rule <= 2, 1000000: rule <= 2, 1000001: false} {
			if d.I = n; Right(d) != want {
				t.Error(rule, n)
			}
		}
		d = node(rule)
		if d.Kids = append(d.Kids, api.Deriv{Rule: api.DVar}); Right(d) {
			t.Error("one more", rule)
		}
		if rule > 2 {
			d = node(rule)
			if d.Kids = d.Kids[1:]; Right(d) {
				t.Error("one less", rule)
			}
			d = node(rule)
			if d.Kids[len(d.Kids)-1] = (api.Deriv{}); Right(d) {
				t.Error("no kid", rule)
			}
		}
	}
	if Right(api.Deriv{}) || Right(api.Deriv{Rule: 29}) || Right(api.Deriv{Rule: -1}) {
		t.Error("no rule")
	}
}

func TestSame(t *testing.T) {
	d, e := node(api.DPair), node(api.DPair)
	if !Same(d, e) || !Same(api.Deriv{Rule: 50}, api.Deriv{Rule: 50, Kids: []api.Deriv{}}) {
		t.Error("same")
	}
	e.Kids[2].I = 1
	if Same(d, e) || Same(d, node(api.EFirst)) || Same(api.Deriv{Rule: 1}, api.Deriv{Rule: 1, I: 1}) || Same(d, api.Deriv{Rule: api.DPair, Kids: d.Kids[:2]}) || Same(api.Deriv{Rule: api.DPair, Kids: d.Kids[:2]}, d) {
		t.Error("not same")
	}
}

func TestNodesAndPaths(t *testing.T) {
	d := api.Deriv{Rule: -4, I: 9, Kids: []api.Deriv{{Rule: 1, I: 5}, {Rule: 99, Kids: []api.Deriv{{Rule: 2, I: 6}, {Rule: 3, Kids: []api.Deriv{{Rule: 2, I: 7}}}}}}}
	if Nodes(d) != 6 || Deep(d) != 4 || Nodes(api.Deriv{}) != 1 || Deep(api.Deriv{}) != 1 {
		t.Error(Nodes(d), Deep(d))
	}
	for _, c := range []struct {
		path []int
		want api.Deriv
	}{{nil, d}, {[]int{0}, d.Kids[0]}, {[]int{1}, d.Kids[1]}, {[]int{1, 0}, d.Kids[1].Kids[0]}, {[]int{1, 1, 0}, d.Kids[1].Kids[1].Kids[0]}} {
		if got, ok := At(d, c.path); !ok || !Same(got, c.want) {
			t.Error(c.path, got, ok)
		}
	}
	for _, path := range [][]int{{2}, {-1}, {0, 0}, {1, 1, 1}, {1, 1, 0, 0}, {1 << 50}} {
		if got, ok := At(d, path); ok || !Same(got, api.Deriv{}) {
			t.Error(path, got, ok)
		}
	}
	got, _ := At(d, []int{1})
	got.Kids[0].I = 40
	if d.Kids[1].Kids[0].I != 6 {
		t.Error("shared")
	}
}
