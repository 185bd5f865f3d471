package ctx

import (
	"testing"

	"tranship/api"
	"tranship/term"
)

func mk(kind int, kids ...api.Term) api.Term { return api.Term{Kind: kind, Kids: kids} }
func s(i int) api.Term                       { return api.Term{Kind: api.Sort, I: i} }
func v(i int) api.Term                       { return api.Term{Kind: api.Var, I: i} }

// sample is a context whose second type has a Tr.
func sample() []api.Entry {
	return []api.Entry{{A: s(0), I: 1}, {A: mk(api.Tr, s(0), s(0), mk(api.PFst, v(0)), v(0)), I: 0}, {A: mk(api.Eq, v(1), v(0), v(0)), I: 1000}}
}

func bad() [][]api.Entry {
	return [][]api.Entry{
		{{A: v(0), I: 0}}, {{A: s(0), I: -1}}, {{A: s(0), I: 1001}}, {{A: mk(api.PFst, s(0)), I: 0}}, {{}}, {{A: s(0), I: 1}, {A: v(1), I: 0}},
		{{A: s(0), I: 1}, {A: mk(api.Pi, s(0), v(2)), I: 0}}, {{A: mk(api.Pi, s(0)), I: 0}},
	}
}

func TestRight(t *testing.T) {
	c := sample()
	for n := 0; n <= len(c); n++ {
		if !Right(c[:n]) {
			t.Error(n)
		}
	}
	if !Right([]api.Entry{{A: s(0), I: 1}, {A: mk(api.Pi, s(0), v(1)), I: 0}}) {
		t.Error("under a binder")
	}
	for i, b := range bad() {
		_, _, ok := At(b, 0)
		if Right(b) || ok || len(Erase(b)) != 0 || len(Plain(b)) != 0 {
			t.Error("bad", i)
		}
	}
}

func TestAt(t *testing.T) {
	c := sample()
	for k, want := range []api.Term{mk(api.Eq, v(2), v(1), v(1)), mk(api.Tr, s(0), s(0), mk(api.PFst, v(2)), v(2)), s(0)} {
		a, i, ok := At(c, k)
		if !ok || i != []int{1000, 0, 1}[k] || !term.Same(a, want) {
			t.Error(k, a, i, ok)
		}
	}
	for _, k := range []int{-1, 3, 1 << 40, -1 << 40} {
		if a, i, ok := At(c, k); ok || i != 0 || a.Kind != 0 {
			t.Error(k)
		}
	}
	if _, _, ok := At(nil, 0); ok {
		t.Error("empty")
	}
}

func TestAdd(t *testing.T) {
	c := sample()
	spare := append(make([]api.Entry, 0, 9), c...)
	d := Add(spare, s(5), 7)
	if len(d) != 4 || d[3].I != 7 || !term.Same(d[3].A, s(5)) || !Same(d[:3], c) || spare[:4][3].A.Kind != 0 {
		t.Error(d)
	}
	c[2].A.Kids[0] = s(1)
	if d[2].A.Kids[0].Kind != api.Var {
		t.Error("shared")
	}
	d = Add([]api.Entry{{I: -4}}, api.Term{Kind: 77, N: 3}, -2)
	if len(d) != 2 || d[0].I != -4 || d[1].I != -2 || d[1].A.Kind != 77 || d[1].A.N != 3 {
		t.Error("anything", d)
	}
}

func TestEraseAndPlain(t *testing.T) {
	c := sample()
	if want := []api.Entry{{A: s(0), I: 1}, {A: v(0), I: 0}, {A: mk(api.Eq, v(1), v(0), v(0)), I: 1000}}; !Same(Erase(c), want) || !Right(Erase(c)) {
		t.Error(Erase(c))
	}
	p := Plain(c)
	use := api.Term{Kind: api.PUse, N: 5, Kids: []api.Term{s(0), s(0), mk(api.PFst, v(0)), v(0)}}
	if len(p) != 3 || !term.Same(p[0], s(0)) || !term.Same(p[1], use) || !term.Same(p[2], mk(api.PEq, v(1), v(0), v(0))) {
		t.Error(p)
	}
	if len(Erase(nil)) != 0 || len(Plain(nil)) != 0 {
		t.Error("empty")
	}
}

func TestSame(t *testing.T) {
	c := sample()
	if !Same(c, sample()) || !Same(nil, []api.Entry{}) || Same(c, c[:2]) || Same(c[:2], c) || !Same(bad()[4], []api.Entry{{}}) {
		t.Error("lengths")
	}
	for k := range c {
		d := sample()
		d[k].I++
		if Same(c, d) {
			t.Error("level", k)
		}
		d = sample()
		d[k].A = s(9)
		if Same(c, d) {
			t.Error("type", k)
		}
	}
}

func TestSameJudg(t *testing.T) {
	j := api.Judg{Equal: true, U: s(1), V: s(2), A: s(3), I: 4}
	if !SameJudg(j, j) || !SameJudg(api.Judg{}, api.Judg{}) {
		t.Error("same")
	}
	for i, change := range []func(k *api.Judg){
		func(k *api.Judg) { k.Equal = false }, func(k *api.Judg) { k.U = s(0) }, func(k *api.Judg) { k.V = s(0) }, func(k *api.Judg) { k.A = s(0) }, func(k *api.Judg) { k.I = 5 },
	} {
		k := j
		change(&k)
		if SameJudg(j, k) || SameJudg(k, j) {
			t.Error(i)
		}
	}
}
