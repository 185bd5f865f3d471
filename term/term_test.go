package term

import (
	"testing"

	"tranship/api"
)

func mk(kind, i, j, n int, kids ...api.Term) api.Term {
	return api.Term{Kind: kind, I: i, J: j, N: n, Kids: kids}
}

func sort(i int) api.Term { return mk(api.Sort, i, 0, 0) }
func v(i int) api.Term    { return mk(api.Var, i, 0, 0) }

// sample is a right term of a kind whose kids are variables.
func sample(kind, symbol int) api.Term {
	t := mk(kind, 0, 0, 0)
	if kind == api.PUse {
		t.N = symbol
	}
	for i := 0; i < Kids(kind, symbol); i++ {
		t.Kids = append(t.Kids, v(0))
	}
	return t
}

func TestKids(t *testing.T) {
	want := []int{-1, 0, 0, 2, 3, 4, 2, 4, 3, 3, 3, 2, 4, 2, 2, 2, 2, 4, 1, 1, 3, 2, 6}
	for kind, n := range want {
		for _, symbol := range []int{-3, 0, 1, 99} {
			if Kids(kind, symbol) != n {
				t.Error(kind, symbol, Kids(kind, symbol))
			}
		}
	}
	for i, n := range []int{-1, 5, 5, 4, 6, 4, 4, 5, 4, 5, 4, 4, 6, 6, 6, 9, 12, 12, 9, 9, 9, 6, -1} {
		if Kids(api.PUse, i) != n {
			t.Error("symbol", i, Kids(api.PUse, i))
		}
	}
	for _, kind := range []int{-1, 24, 1 << 40} {
		if Kids(kind, 1) != -1 {
			t.Error(kind)
		}
	}
	if Kids(api.PUse, -1) != -1 {
		t.Error("symbol -1")
	}
}

func TestBinds(t *testing.T) {
	one := map[[2]int]int{{api.PJ, 2}: 2, {api.Lam, 1}: 1, {api.Lam, 2}: 1}
	for _, kind := range []int{api.Pi, api.App, api.Sig, api.Pair, api.Fst, api.Snd, api.PPi, api.PLam, api.PSig, api.PPair} {
		one[[2]int{kind, 1}] = 1
	}
	for kind := -1; kind < 26; kind++ {
		for kid := -2; kid < 14; kid++ {
			if Binds(kind, kid) != one[[2]int{kind, kid}] {
				t.Error(kind, kid, Binds(kind, kid))
			}
		}
	}
}

func TestSortsOfTerms(t *testing.T) {
	for kind := 1; kind <= 23; kind++ {
		for symbol := 1; symbol <= 21; symbol++ {
			x := sample(kind, symbol)
			if !Right(x) || Marked(x) != (kind <= 12) || Plain(x) != (kind <= 2 || kind >= 13) || Pure(x) != (kind <= 11) {
				t.Error(kind, symbol)
			}
			if x.Kids = append(x.Kids, v(0)); Right(x) || Marked(x) || Plain(x) {
				t.Error("one more kid", kind)
			}
			if n := len(x.Kids); n > 1 {
				if x.Kids = x.Kids[:n-2]; Right(x) {
					t.Error("one kid less", kind)
				}
			}
		}
	}
}

func TestNumbersOfTerms(t *testing.T) {
	levels := map[int]int{api.Sort: 1, api.Eq: 1, api.Refl: 1, api.Tr: 1, api.PUse: 2}
	for _, k := range []int{api.Pi, api.Lam, api.App, api.Sig, api.Pair, api.Fst, api.Snd} {
		levels[k] = 2
	}
	for kind := 1; kind <= 23; kind++ {
		for _, n := range []int{-1, 1, 1000, 1001, 1<<31 - 1, 1 << 31} {
			x := sample(kind, 1)
			x.I = n
			want := levels[kind] > 0 && n >= 0 && n <= 1000 || kind == api.Var && n >= 0 && n < 1<<31
			if Right(x) != want {
				t.Error("I", kind, n)
			}
			x = sample(kind, 1)
			x.J = n
			if Right(x) != (levels[kind] > 1 && n >= 0 && n <= 1000) {
				t.Error("J", kind, n)
			}
			x = sample(kind, 1)
			x.N += n
			if kind != api.PUse && Right(x) {
				t.Error("N", kind, n)
			}
		}
	}
}

func TestSortsOfKids(t *testing.T) {
	m, p := mk(api.Refl, 0, 0, 0, v(0), v(0)), mk(api.PRefl, 0, 0, 0, v(0), v(0))
	for kind := 3; kind <= 23; kind++ {
		for i := 0; i < Kids(kind, 1); i++ {
			x := sample(kind, 1)
			x.Kids[i] = m
			wantMarked := kind <= 12 && !(kind == api.Tr && i == 2)
			if Right(x) != wantMarked {
				t.Error("marked kid", kind, i)
			}
			x.Kids[i] = p
			if Right(x) == wantMarked {
				t.Error("plain kid", kind, i)
			}
			x.Kids[i] = mk(0, 0, 0, 0)
			if Right(x) {
				t.Error("no kid", kind, i)
			}
		}
	}
	deep := mk(api.Pi, 0, 0, 0, sort(0), mk(api.Eq, 0, 0, 0, v(0), v(0), sample(api.Tr, 0)))
	if !Marked(deep) || Pure(deep) || Pure(p) || Pure(mk(0, 0, 0, 0)) {
		t.Error("Pure")
	}
}

func TestSame(t *testing.T) {
	a := mk(api.PLam, 0, 0, 0, sort(0), v(1))
	b := mk(api.PLam, 0, 0, 0, sort(0), v(1))
	if !Same(a, b) || !Same(mk(99, 1, 2, 3), api.Term{Kind: 99, I: 1, J: 2, N: 3, Kids: []api.Term{}}) {
		t.Error("same")
	}
	for _, x := range []api.Term{
		mk(api.PPi, 0, 0, 0, sort(0), v(1)), mk(api.PLam, 1, 0, 0, sort(0), v(1)), mk(api.PLam, 0, 1, 0, sort(0), v(1)), mk(api.PLam, 0, 0, 1, sort(0), v(1)),
		mk(api.PLam, 0, 0, 0, sort(0), v(2)), mk(api.PLam, 0, 0, 0, sort(1), v(1)), mk(api.PLam, 0, 0, 0, sort(0)), mk(api.PLam, 0, 0, 0, sort(0), v(1), v(1)),
	} {
		if Same(a, x) || Same(x, a) {
			t.Error(x)
		}
	}
}

func TestSizeAndDeep(t *testing.T) {
	x := mk(api.PLam, 0, 0, 0, sort(0), v(1))
	if Size(x) != 3 || Deep(x) != 2 || Size(api.Term{}) != 1 || Deep(api.Term{}) != 1 {
		t.Error(Size(x), Deep(x))
	}
	y := mk(-5, 7, 7, 7, x, sort(0), mk(3, 0, 0, 0, x))
	if Size(y) != 9 || Deep(y) != 4 {
		t.Error(Size(y), Deep(y))
	}
}

func TestFree(t *testing.T) {
	for _, c := range []struct {
		t    api.Term
		want int
	}{
		{v(0), 1}, {v(41), 42}, {v(1<<31 - 1), 1 << 31}, {sort(3), 0},
		{mk(api.PLam, 0, 0, 0, sort(0), v(1)), 1}, {mk(api.PLam, 0, 0, 0, sort(0), v(0)), 0}, {mk(api.PLam, 0, 0, 0, v(0), v(0)), 1},
		{mk(api.Lam, 0, 0, 0, sort(0), v(4), v(2)), 4}, {mk(api.Lam, 0, 0, 0, sort(0), v(2), v(4)), 4},
		{mk(api.PJ, 0, 0, 0, sort(0), sort(0), v(5), sort(0), sort(0), sort(0)), 4}, {mk(api.PJ, 0, 0, 0, sort(0), sort(0), v(1), sort(0), sort(0), v(2)), 3},
		{mk(api.Tr, 0, 0, 0, v(0), v(1), v(2), v(0)), 3}, {mk(api.Pair, 0, 0, 0, v(0), v(5), v(3), v(4)), 5},
		{mk(api.PLam, 0, 0, 0, v(9)), 0}, {mk(api.PApp, 0, 0, 0, v(9), mk(api.Refl, 0, 0, 0, v(0), v(0))), 0}, {v(-1), 0}, {api.Term{}, 0},
	} {
		if got := Free(c.t); got != c.want {
			t.Error(c, got)
		}
	}
}

func TestDeepTerms(t *testing.T) {
	x := v(0)
	for i := 0; i < 1<<16; i++ {
		x = mk(api.PLam, 0, 0, 0, sort(0), x)
	}
	if !Plain(x) || Marked(x) || Size(x) != 1<<17+1 || Deep(x) != 1<<16+1 || Free(x) != 0 || !Same(x, x) {
		t.Error("deep")
	}
}
