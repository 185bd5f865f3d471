package result

import (
	"tranship/api"
	"tranship/lex"
	"tranship/num"
	"tranship/read"
	"tranship/write"
)

// Read: see the document.
func Read(text string) (r Result, e api.Errno, at int) {
	p := reader{text: text, end: len(text)}
	l, fault, end := lex.Lex(text)
	if fault != api.OK {
		// What stands before the fault is read first: an error in it comes first in the text.
		l, _, _ = lex.Lex(text[:end])
		p.end = end
	}
	p.tokens = l
	defer func() {
		if recover() != nil {
			r, e, at = Result{}, api.ErrParse, p.at
		}
	}()
	r = p.result()
	if len(p.tokens) > 0 || fault != api.OK {
		p.fail(p.here())
	}
	return r, api.OK, 0
}

// reader reads the tokens that are left; it leaves by a panic at the first fault.
type reader struct {
	text   string
	tokens []lex.Token
	end    int
	at     int
}

func (p *reader) fail(at int) {
	p.at = at
	panic("no text of a result")
}

// here is the offset of the next token.
func (p *reader) here() int {
	if len(p.tokens) == 0 {
		return p.end
	}
	return p.tokens[0].At
}

// take takes the next token, which has to be of a kind.
func (p *reader) take(kind int) lex.Token {
	if len(p.tokens) == 0 || p.tokens[0].Kind != kind {
		p.fail(p.here())
	}
	t := p.tokens[0]
	p.tokens = p.tokens[1:]
	return t
}

func (p *reader) level() int {
	t := p.take(lex.Num)
	n, _ := num.Get(t.Text)
	if n > api.MaxLevel {
		p.fail(t.At)
	}
	return n
}

func (p *reader) result() Result {
	p.take(lex.Open)
	head := p.take(lex.Word)
	r := Result{Equal: head.Text == "equal"}
	if !r.Equal && head.Text != "term" {
		p.fail(head.At)
	}
	p.take(lex.Open)
	for len(p.tokens) == 0 || p.tokens[0].Kind != lex.Close {
		i := p.level()
		r.Ctx = append(r.Ctx, api.Entry{A: p.term(len(r.Ctx), false), I: i})
	}
	p.take(lex.Close)
	n := len(r.Ctx)
	r.I = p.level()
	if r.Equal {
		r.A, r.U, r.B, r.V = p.term(n, false), p.term(n, false), p.term(n, false), p.term(n, false)
		r.H = p.term(n, true)
	} else {
		r.U, r.A = p.term(n, false), p.term(n, false)
	}
	p.take(lex.Close)
	return r
}

// term reads a marked or a plain term in a context of n entries.
func (p *reader) term(n int, plain bool) api.Term {
	from := p.here()
	if len(p.tokens) > 1 && p.tokens[0].Kind == lex.Open && other(p.tokens[1].Text, plain) {
		p.fail(p.tokens[1].At)
	}
	t, e, at := read.Read(p.text[from:p.extent()], write.Names(n), 0, 0)
	if e != api.OK {
		p.fail(from + at)
	}
	return t
}

// extent takes the tokens of a term, and returns where it ends: with the text, if its list is never closed.
func (p *reader) extent() int {
	open := 0
	for k, t := range p.tokens {
		switch t.Kind {
		case lex.Open:
			open++
		case lex.Close:
			open--
		}
		if open <= 0 {
			p.tokens = p.tokens[k+1:]
			return t.At + len(t.Text)
		}
	}
	return len(p.text)
}

// other tells whether a word is the head of the lists of the other sort only.
func other(word string, plain bool) bool {
	switch word {
	case "pi", "lam", "app", "sig", "pair", "fst", "snd", "eq", "refl", "tr":
		return plain
	case "Pi", "Lam", "App", "Sig", "Pair", "Fst", "Snd", "Eq", "Refl", "J", "use":
		return !plain
	}
	return false
}
