// Package stream hands out the tokens of a text one by one. What reads them leaves by a panic with a Fault where the text
// cannot be continued, and whoever began the reading catches that.
package stream

import (
	"tranship/api"
	"tranship/lex"
)

// Fault is what is panicked with: the offset at which the text cannot be continued.
type Fault struct{ At int }

// Stream is what is left of the tokens of a text.
type Stream struct {
	tokens []lex.Token
	end    int
	broken bool
}

// Of begins a text. Of one that is no sequence of tokens it hands out what stands before the byte at fault: an error in
// that comes first in the text.
func Of(text string) *Stream {
	l, e, at := lex.Lex(text)
	if e == api.OK {
		return &Stream{tokens: l, end: len(text)}
	}
	l, _, _ = lex.Lex(text[:at])
	return &Stream{tokens: l, end: at, broken: true}
}

// Fail gives the text up at an offset.
func Fail(at int) {
	panic(Fault{at})
}

// Here is the offset of the next token, or where the tokens end.
func (s *Stream) Here() int {
	if len(s.tokens) == 0 {
		return s.end
	}
	return s.tokens[0].At
}

// Next tells whether the next token is of a kind.
func (s *Stream) Next(kind int) bool {
	return len(s.tokens) > 0 && s.tokens[0].Kind == kind
}

// Ahead returns the tokens that are left; they are not to be changed.
func (s *Stream) Ahead() []lex.Token {
	return s.tokens
}

// Skip passes over the next n tokens.
func (s *Stream) Skip(n int) {
	s.tokens = s.tokens[n:]
}

// Take takes the next token, which has to be of a kind.
func (s *Stream) Take(kind int) lex.Token {
	if !s.Next(kind) {
		Fail(s.Here())
	}
	t := s.tokens[0]
	s.tokens = s.tokens[1:]
	return t
}

// End demands that nothing is left.
func (s *Stream) End() {
	if len(s.tokens) > 0 || s.broken {
		Fail(s.Here())
	}
}
