package result

import (
	"tranship/api"
	"tranship/lex"
	"tranship/num"
	"tranship/read"
	"tranship/stream"
	"tranship/write"
)

// Read: see the document.
func Read(text string) (r Result, e api.Errno, at int) {
	p := reader{Stream: stream.Of(text), text: text}
	defer func() {
		if x := recover(); x != nil {
			f, _ := x.(stream.Fault)
			r, e, at = Result{}, api.ErrParse, f.At
		}
	}()
	r = p.result()
	p.End()
	return r, api.OK, 0
}

// reader reads results.
type reader struct {
	*stream.Stream
	text  string
	names []string
}

// named are the names of a context of n entries.
func (p *reader) named(n int) []string {
	if n > api.MaxNum {
		return nil
	}
	if n > len(p.names) {
		p.names = write.Names(min(2*n, api.MaxNum))
	}
	return p.names[:n]
}

func (p *reader) level() int {
	t := p.Take(lex.Num)
	n, _ := num.Get(t.Text)
	if n > api.MaxLevel {
		stream.Fail(t.At)
	}
	return n
}

func (p *reader) result() Result {
	p.Take(lex.Open)
	head := p.Take(lex.Word)
	r := Result{Equal: head.Text == "equal"}
	if !r.Equal && head.Text != "term" {
		stream.Fail(head.At)
	}
	p.Take(lex.Open)
	for !p.Next(lex.Close) {
		i := p.level()
		r.Ctx = append(r.Ctx, api.Entry{A: p.term(len(r.Ctx), false), I: i})
	}
	p.Take(lex.Close)
	n := len(r.Ctx)
	r.I = p.level()
	if r.Equal {
		r.A, r.U, r.B, r.V = p.term(n, false), p.term(n, false), p.term(n, false), p.term(n, false)
		r.H = p.term(n, true)
	} else {
		r.U, r.A = p.term(n, false), p.term(n, false)
	}
	p.Take(lex.Close)
	return r
}

// term reads a marked or a plain term in a context of n entries.
func (p *reader) term(n int, plain bool) api.Term {
	from := p.Here()
	if l := p.Ahead(); len(l) > 1 && l[0].Kind == lex.Open && other(l[1].Text, plain) {
		stream.Fail(l[1].At)
	}
	t, e, at := read.Read(p.text[from:p.extent()], p.named(n), 0, 0)
	if e != api.OK {
		stream.Fail(from + at)
	}
	return t
}

// extent takes the tokens of a term, and returns where it ends: with the text, if its list is never closed.
func (p *reader) extent() int {
	open := 0
	for k, t := range p.Ahead() {
		switch t.Kind {
		case lex.Open:
			open++
		case lex.Close:
			open--
		}
		if open <= 0 {
			p.Skip(k + 1)
			return t.At + len(t.Text)
		}
	}
	return len(p.text)
}

// other tells whether a word is the head of the lists of the other sort only.
func other(word string, plain bool) bool {
	switch word {
	case "pi", "lam", "app", "sig", "pair", "fst", "snd", "eq", "refl", "tr":
		return plain
	case "Pi", "Lam", "App", "Sig", "Pair", "Fst", "Snd", "Eq", "Refl", "J", "use":
		return !plain
	}
	return false
}
