package tree

import (
	"testing"

	"tranship/api"
)

func mk(kind, i, j int, kids ...api.Term) api.Term {
	return api.Term{Kind: kind, I: i, J: j, Kids: kids}
}

func TestCopiesShareNothing(t *testing.T) {
	x := mk(-7, 1, 2, mk(3, 0, 0, mk(4, 0, 0)))
	y := Copy(x)
	c := []api.Entry{{A: x, I: 5}}
	d := Entries(c)
	x.Kids[0].Kids[0].Kind = 9
	if y.Kind != -7 || y.I != 1 || y.J != 2 || y.Kids[0].Kids[0].Kind != 4 || d[0].A.Kids[0].Kids[0].Kind != 4 || d[0].I != 5 {
		t.Error(y, d)
	}
	e := api.Deriv{Rule: 1, I: 2, Kids: []api.Deriv{{Rule: 3}}}
	f := Deriv(e)
	e.Kids[0].Rule = 4
	if f.Rule != 1 || f.I != 2 || f.Kids[0].Rule != 3 {
		t.Error(f)
	}
}

func TestLevel(t *testing.T) {
	x := mk(api.Tr, 2, 0, mk(api.Sort, 3, 0), mk(api.Var, 999, 0), mk(api.PUse, 4, 17), mk(api.Sort, 1, 0))
	if Level(x) != 17 || Level(mk(api.Var, 8, 0)) != 0 || !Low(x, 17) || Low(x, 16) {
		t.Error(Level(x))
	}
	c := []api.Entry{{A: mk(api.Sort, 3, 0), I: 4}, {A: mk(api.Sort, 6, 0), I: 2}}
	if !LowCtx(c, 6) || LowCtx(c, 5) || LowCtx([]api.Entry{{I: 4}}, 3) || !LowCtx(nil, 0) {
		t.Error("LowCtx")
	}
}
