package dag

import (
	"math"
	"testing"

	"tranship/api"
	"tranship/lift"
	"tranship/naive"
	"tranship/subst"
	"tranship/term"
)

func TestTermsAreNodes(t *testing.T) {
	r := naive.Random{Seed: 3}
	m := New()
	for range 2000 {
		x := r.Plain(6, 4)
		n := m.In(x)
		if !term.Same(Out(n), x) || n.Free != term.Free(x) || n != m.In(Out(n)) {
			t.Fatal(x)
		}
		k, from := r.Below(4), r.Below(4)
		if !term.Same(Out(m.Lift(n, k, from)), lift.Lift(x, k, from)) {
			t.Fatal("Lift", k, from, x)
		}
		u := r.Plain(3, 4)
		if !term.Same(Out(m.Put(n, m.In(u))), subst.Put(x, u)) {
			t.Fatal("Put", x, u)
		}
		l := []api.Term{r.Plain(3, 4), r.Plain(3, 4), r.Plain(3, 4), r.Plain(3, 4)}
		want, _ := subst.All(x, l)
		if !term.Same(Out(m.Put(n, m.Ins(l)...)), want) {
			t.Fatal("All", x, l)
		}
		given := m.Given(n, []*Node{m.In(l[3]), m.In(l[2]), m.In(l[1]), m.In(l[0])})
		if !term.Same(Out(given), want) {
			t.Fatal("Given", x, l)
		}
	}
}

// spent tells whether something is abandoned.
func spent(run func()) (ok bool) {
	defer func() {
		_, ok = recover().(Spent)
	}()
	run()
	return
}

// twice is a term whose step makes the same term, and growing one that becomes greater with each round of steps.
func twice(m *Machine) *Node {
	w := m.Make(api.PLam, m.Sort(0), m.Make(api.PApp, m.Var(0), m.Var(0)))
	return m.Make(api.PApp, w, w)
}

func growing(m *Machine) *Node {
	w := m.Make(api.PLam, m.Sort(0), m.Make(api.PLam, m.Sort(0), m.Make(api.PApp, m.Make(api.PApp, m.Var(1), m.Var(1)), m.Make(api.PFst, m.Var(0)))))
	return m.Make(api.PApp, m.Make(api.PApp, w, w), m.Sort(0))
}

// step is a term that becomes x by a step.
func step(m *Machine, x *Node) *Node {
	return m.Make(api.PApp, m.Make(api.PLam, m.Sort(0), m.Var(0)), x)
}

func TestSpent(t *testing.T) {
	m := New()
	if !spent(func() { m.Head(step(m, m.Sort(1))) }) {
		t.Error("no fuel")
	}
	m = New()
	m.Fuel(math.Inf(1))
	if !spent(func() { m.Head(twice(m)) }) || m.steps.Used() > 2 {
		t.Error("endless", m.steps.Used())
	}
	m = New()
	m.room = 2
	if !spent(func() { m.Make(api.PApp, m.Sort(0), m.Sort(0)); m.Sort(2) }) {
		t.Error("full")
	}
}

// TestLongWay has terms whose parts are dear to compare, though a step drops them.
func TestLongWay(t *testing.T) {
	dear := func(m *Machine, i int) *Node {
		x := m.Sort(i)
		for range 50 {
			x = m.Make(api.PApp, m.Make(api.PLam, m.Sort(0), m.Make(api.PFst, m.Var(0))), x)
		}
		return x
	}
	for _, typed := range []bool{false, true} {
		make := func() *Machine {
			m := New()
			m.Trust(func() bool { return typed })
			return m
		}
		m := make()
		a := m.Make(api.PJ, dear(m, 0), m.Sort(1), m.Sort(1), m.Sort(1), m.Sort(1), m.Make(api.PRefl, m.Sort(0), m.Sort(0)))
		b := m.Make(api.PJ, dear(m, 1), m.Sort(1), m.Sort(1), m.Sort(1), m.Sort(1), m.Make(api.PRefl, m.Sort(0), m.Sort(1)))
		if !m.Same(a, b, 2) {
			t.Error("two steps are enough", typed)
		}
		if !spent(func() { m = make(); m.Same(m.In(Out(a)), m.In(Out(b)), 1) }) {
			t.Error("one is not", typed)
		}
	}
}

// TestWithoutNormalForm has terms of which a few steps seem to show whether they are convertible.
func TestWithoutNormalForm(t *testing.T) {
	for _, endless := range []func(m *Machine) *Node{twice, growing} {
		for _, x := range []int{0, 1} {
			for _, fuel := range []float64{0, 10, 1e4} {
				m := New()
				a := m.Make(api.PEq, step(m, m.Sort(0)), m.Sort(0), endless(m))
				b := m.Make(api.PEq, m.Sort(x), m.Sort(0), endless(m))
				if !spent(func() { m.Same(a, b, fuel) }) || !spent(func() { m.Same(b, a, fuel) }) {
					t.Error("an answer", x, fuel)
				}
				if !m.Same(a, a, fuel) {
					t.Error("the same term", fuel)
				}
			}
		}
	}
}

// TestTrust has terms that are trusted to have normal forms, though the steps are too few to find them.
func TestTrust(t *testing.T) {
	m := New()
	asked := 0
	m.Trust(func() bool { asked++; return true })
	x := m.Make(api.PApp, m.Var(0), m.Sort(0))
	far := m.Sort(0)
	for range 1000 {
		far = step(m, far)
	}
	if !m.Same(x, x, 0) || asked != 0 {
		t.Error("asked without need")
	}
	for _, k := range []int{0, 1} {
		a := m.Make(api.PEq, step(m, m.Sort(0)), m.Sort(0), far)
		b := m.Make(api.PEq, m.Sort(k), m.Sort(0), far)
		if m.Same(a, b, 1) != (k == 0) || asked != 1 {
			t.Error("trusted", k, asked)
		}
	}
	m = New()
	m.Trust(func() bool { return false })
	if !spent(func() { m.Same(step(m, m.Sort(0)), m.Make(api.PFst, growing(m)), 100) }) {
		t.Error("not trusted")
	}
}
