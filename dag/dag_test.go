package dag

import (
	"math"
	"testing"

	"tranship/api"
	"tranship/lift"
	"tranship/naive"
	"tranship/subst"
	"tranship/term"
)

func TestTermsAreNodes(t *testing.T) {
	r := naive.Random{Seed: 3}
	m := New()
	for range 2000 {
		x := r.Plain(6, 4)
		n := m.In(x)
		if !term.Same(Out(n), x) || n.Free != term.Free(x) || n != m.In(Out(n)) {
			t.Fatal(x)
		}
		k, from := r.Below(4), r.Below(4)
		if !term.Same(Out(m.Lift(n, k, from)), lift.Lift(x, k, from)) {
			t.Fatal("Lift", k, from, x)
		}
		u := r.Plain(3, 4)
		if !term.Same(Out(m.Put(n, m.In(u))), subst.Put(x, u)) {
			t.Fatal("Put", x, u)
		}
		l := []api.Term{r.Plain(3, 4), r.Plain(3, 4), r.Plain(3, 4), r.Plain(3, 4)}
		want, _ := subst.All(x, l)
		if !term.Same(Out(m.Put(n, m.Ins(l)...)), want) {
			t.Fatal("All", x, l)
		}
		given := m.Given(n, []*Node{m.In(l[3]), m.In(l[2]), m.In(l[1]), m.In(l[0])})
		if !term.Same(Out(given), want) {
			t.Fatal("Given", x, l)
		}
	}
}

// spent runs something, and returns what it panics with.
func spent(run func()) (s Spent, ok bool) {
	defer func() {
		s, ok = recover().(Spent)
	}()
	run()
	return
}

func TestSpent(t *testing.T) {
	m := New()
	id := m.Make(api.PLam, m.Sort(0), m.Var(0))
	if s, ok := spent(func() { m.Head(m.Make(api.PApp, id, m.Sort(1))) }); !ok || s.Endless || s.Full {
		t.Error("no fuel", s, ok)
	}
	m = New()
	m.Fuel(math.Inf(1))
	w := m.Make(api.PLam, m.Sort(0), m.Make(api.PApp, m.Var(0), m.Var(0)))
	if s, ok := spent(func() { m.Head(m.Make(api.PApp, w, w)) }); !ok || !s.Endless {
		t.Error("endless", s, ok)
	}
	m = New()
	m.Room(2)
	if s, ok := spent(func() { m.Make(api.PApp, m.Sort(0), m.Sort(0)); m.Sort(2) }); !ok || !s.Full {
		t.Error("full", s, ok)
	}
}

// TestLongWay has terms whose parts are dear to compare, though a step drops them.
func TestLongWay(t *testing.T) {
	dear := func(m *Machine, i int) *Node {
		x := m.Sort(i)
		for range 50 {
			x = m.Make(api.PApp, m.Make(api.PLam, m.Sort(0), m.Make(api.PFst, m.Var(0))), x)
		}
		return x
	}
	m := New()
	a := m.Make(api.PJ, dear(m, 0), m.Sort(1), m.Sort(1), m.Sort(1), m.Sort(1), m.Make(api.PRefl, m.Sort(0), m.Sort(0)))
	b := m.Make(api.PJ, dear(m, 1), m.Sort(1), m.Sort(1), m.Sort(1), m.Sort(1), m.Make(api.PRefl, m.Sort(0), m.Sort(1)))
	if !m.Same(a, b, 2) {
		t.Error("two steps are enough")
	}
	if _, ok := spent(func() { m = New(); m.Same(m.In(Out(a)), m.In(Out(b)), 1) }); !ok {
		t.Error("one is not")
	}
}
