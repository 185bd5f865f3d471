package lex

import (
	"slices"
	"strings"
	"testing"

	"tranship/api"
)

func TestTokens(t *testing.T) {
	w20 := strings.Repeat("z", 20)
	for _, c := range []struct {
		text string
		want []Token
	}{
		{"", nil},
		{" \t\n ; all of it ( 01 $", nil},
		{"(pi 0;x", []Token{{Open, "(", 0}, {Word, "pi", 1}, {Num, "0", 4}}},
		{"((a))", []Token{{Open, "(", 0}, {Open, "(", 1}, {Word, "a", 2}, {Close, ")", 3}, {Close, ")", 4}}},
		{"a1B2(1000000)", []Token{{Word, "a1B2", 0}, {Open, "(", 4}, {Num, "1000000", 5}, {Close, ")", 12}}},
		{"x;y\nz", []Token{{Word, "x", 0}, {Word, "z", 4}}},
		{";a;b\n\tAz", []Token{{Word, "Az", 6}}},
		{"12 3", []Token{{Num, "12", 0}, {Num, "3", 3}}},
		{"12;3\n0", []Token{{Num, "12", 0}, {Num, "0", 5}}},
		{w20, []Token{{Word, w20, 0}}},
	} {
		got, e, at := Lex(c.text)
		if !slices.Equal(got, c.want) || e != api.OK || at != 0 {
			t.Errorf("Lex(%q) = %v %d %d", c.text, got, e, at)
		}
	}
}

func TestFaults(t *testing.T) {
	for text, want := range map[string]int{
		"01": 0, "a 00": 2, "12a": 0, "( 3x )": 2, "1000001": 0, "9 99999999999999999999": 2,
		"$": 0, "a\r\n": 1, "a\x00": 1, "a\xffb": 1, "ab_c": 2, "a -1": 2, "é": 0, "a,b": 1, "\v": 0,
		" " + strings.Repeat("a", 21): 1, "x $ 01": 2, "x 01 $": 2, "\"": 0, ";\n;\n.": 4,
	} {
		if l, e, at := Lex(text); len(l) != 0 || e != api.ErrParse || at != want {
			t.Errorf("Lex(%q) = %v %d %d", text, l, e, at)
		}
	}
}

func TestJoinedTokensComeBack(t *testing.T) {
	words := []string{"(", "pi", "0", ")", "x1", "(", "999999", "Z", ")"}
	for _, gap := range []string{" ", "\t", "\n", " ;r ( 01 $\n", ";\n;\n"} {
		l, e, _ := Lex(gap + strings.Join(words, gap) + gap)
		if e != api.OK || len(l) != len(words) {
			t.Fatalf("%q: %v %d", gap, l, e)
		}
		for i, k := range l {
			if k.Text != words[i] {
				t.Errorf("%q: token %d is %q", gap, i, k.Text)
			}
		}
	}
}

func TestName(t *testing.T) {
	for s, want := range map[string]bool{
		"a": true, "Z9": true, "sort": true, strings.Repeat("a", 20): true,
		"": false, "1a": false, "a b": false, " a": false, "a ": false, "a;": false, "(": false, "a_": false, strings.Repeat("a", 21): false, "é": false, "7": false, "a(": false,
	} {
		if Name(s) != want {
			t.Errorf("Name(%q) = %v", s, !want)
		}
	}
}
