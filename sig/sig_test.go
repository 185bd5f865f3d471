package sig

import (
	"testing"

	"tranship/api"
	"tranship/read"
	"tranship/term"
	"tranship/write"
)

func TestEverySymbol(t *testing.T) {
	for n := 1; n <= api.Symbols; n++ {
		for _, l := range [][2]int{{0, 0}, {3, 5}, {999, 0}, {0, 999}, {999, 999}} {
			s, ok := At(n, l[0], l[1])
			if !ok || s.Name != read.Name(n) || len(s.Params) != term.Kids(api.PUse, n) || s.Def != (n > 2) {
				t.Fatal(n, s.Name, len(s.Params), s.Def)
			}
			for k, p := range s.Params {
				if !term.Plain(p) || term.Free(p) > k {
					t.Error(n, k, p)
				}
			}
			if !term.Plain(s.Type) || term.Free(s.Type) > len(s.Params) {
				t.Error(n, s.Type)
			}
			if s.Def != term.Plain(s.Body) || term.Free(s.Body) > len(s.Params) || !s.Def && !term.Same(s.Body, api.Term{}) {
				t.Error(n, s.Body)
			}
		}
	}
}

// pieces are the texts of the members of a list.
func pieces(list string) []string {
	var l []string
	open, from := 0, 1
	for i, b := range list[:len(list)-1] {
		switch {
		case i == 0:
			continue
		case b == '(':
			open++
		case b == ')':
			open--
		case b == ' ' && open == 0:
			l = append(l, list[from:i])
			from = i + 1
		}
	}
	return append(l, list[from:len(list)-1])
}

// TestTexts reads the pieces of each line by themselves.
func TestTexts(t *testing.T) {
	for n, line := range api.Library() {
		s, _ := At(n+1, 4, 7)
		p := pieces(line)
		var names []string
		for k, param := range pieces(p[2]) {
			nameAndType := pieces(param)
			if want, e, _ := read.Read(nameAndType[1], names, 4, 7); e != api.OK || !term.Same(s.Params[k], want) {
				t.Error(n, k, s.Params[k])
			}
			names = append(names, nameAndType[0])
		}
		if want, e, _ := read.Read(p[3], names, 4, 7); e != api.OK || !term.Same(s.Type, want) {
			t.Error(n, s.Type)
		}
		if len(p) == 5 {
			if want, e, _ := read.Read(p[4], names, 4, 7); e != api.OK || !term.Same(s.Body, want) {
				t.Error(n, s.Body)
			}
		}
		if s.Name != p[1] || s.Def != (p[0] == "def") || len(names) != len(s.Params) {
			t.Error(n, s.Name)
		}
	}
}

func TestSome(t *testing.T) {
	s, _ := At(6, 2, 0)
	if !term.Same(s.Type, api.Term{Kind: api.Sort, I: 3}) || !s.Def {
		t.Error(s.Type)
	}
	if got := write.Write(s.Body, 4); got != "(Eq (Sig v4 (sort 2) v4) (Pair v4 (sort 2) v4 v0 v2) (Pair v4 (sort 2) v4 v1 v3))" {
		t.Error(got)
	}
	s, _ = At(3, 1, 0)
	for k, want := range []string{"(sort 1)", "v0", "v0", "(Eq v0 v1 v2)"} {
		if got := write.Write(s.Params[k], k); got != want {
			t.Error(k, got)
		}
	}
	if got := write.Write(s.Type, 4) + write.Write(s.Body, 4); got != "(Eq v0 v2 v1)(J v0 v1 v4 v5 (Eq v0 v4 v1) (Refl v0 v1) v2 v3)" {
		t.Error(got)
	}
	s, _ = At(13, 3, 5)
	if got := write.Write(s.Type, 6); got != "(Eq (sort 5) (Pi v6 v0 (App v3 v6)) (Pi v6 v1 (App v4 v6)))" {
		t.Error(got)
	}
	s, _ = At(1, 999, 4)
	if s.Def || s.Body.Kind != 0 || s.Params[0].I != 999 {
		t.Error(s)
	}
}

func TestNoSymbols(t *testing.T) {
	for _, c := range [][3]int{{0, 0, 0}, {22, 0, 0}, {-1, 0, 0}, {3, -1, 0}, {3, 0, -1}, {3, 1000, 0}, {3, 0, 1000}, {3, 1 << 40, 0}} {
		if s, ok := At(c[0], c[1], c[2]); ok || s.Name != "" || s.Params != nil || s.Type.Kind != 0 || s.Body.Kind != 0 || s.Def {
			t.Error(c, s)
		}
	}
}
