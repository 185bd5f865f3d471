package stream

import (
	"testing"

	"tranship/lex"
)

// fault runs something, and returns the offset with which it is given up, or -1.
func fault(run func()) (at int) {
	at = -1
	defer func() {
		if f, ok := recover().(Fault); ok {
			at = f.At
		}
	}()
	run()
	return
}

func TestStream(t *testing.T) {
	s := Of(" (a 1)")
	if s.Here() != 1 || !s.Next(lex.Open) || s.Next(lex.Word) || fault(func() { s.Take(lex.Close) }) != 1 || s.Take(lex.Open).At != 1 {
		t.Error("open")
	}
	if s.Take(lex.Word).Text != "a" || len(s.Ahead()) != 2 || fault(s.End) != 4 {
		t.Error("word")
	}
	s.Skip(2)
	if s.Here() != 6 || fault(func() { s.Take(lex.Word) }) != 6 || fault(s.End) != -1 {
		t.Error("end")
	}
}

func TestBroken(t *testing.T) {
	s := Of("a $ b")
	if s.Take(lex.Word).Text != "a" || s.Here() != 2 || fault(s.End) != 2 || fault(func() { s.Take(lex.Word) }) != 2 {
		t.Error("broken")
	}
	if s = Of(""); s.Here() != 0 || fault(s.End) != -1 {
		t.Error("empty")
	}
}
