package token

import (
	"slices"
	"strings"
	"testing"
)

func kindsOf(text string) []Kind {
	var kinds []Kind
	for _, found := range Scan(text) {
		kinds = append(kinds, found.Kind)
	}
	return kinds[:len(kinds)-1]
}

func TestScanKinds(t *testing.T) {
	for _, c := range []struct {
		text string
		want []Kind
	}{
		{"", nil},
		{" \n \n", nil},
		{"( ) ; := < <= = > >= + -", []Kind{Open, Close, Semicolon, Assign, Less, AtMost, Equal, Greater, AtLeast, Plus, Minus}},
		{"();:=<<==>>=+-", []Kind{Open, Close, Semicolon, Assign, Less, AtMost, Equal, Greater, AtLeast, Plus, Minus}},
		{"from do to skip if then else end while keep", []Kind{From, Do, To, Skip, If, Then, Else, End, While, Keep}},
		{"or and not true false", []Kind{Or, And, Not, True, False}},
		{"a b c d e", []Kind{Variable, Variable, Variable, Variable, Unknown}},
		{"a:=b", []Kind{Variable, Assign, Variable}},
		{"a::=b", []Kind{Unknown, Assign, Variable}},
		{":", []Kind{Unknown}},
		{"a:", []Kind{Unknown}},
		{": =", []Kind{Unknown, Equal}},
		{":==", []Kind{Assign, Equal}},
		{"<:=", []Kind{Less, Assign}},
		{"=<>=", []Kind{Equal, Less, AtLeast}},
		{"<==", []Kind{AtMost, Equal}},
		{"a-1", []Kind{Variable, Minus, Number}},
		{"--1", []Kind{Minus, Minus, Number}},
		{"from(a)do", []Kind{From, Open, Variable, Close, Do}},
		{"\ta", []Kind{Unknown}},
		{"a\r\nb", []Kind{Unknown, Variable}},
		{"From TRUE truefalse a1 1a ä \xff \x00", []Kind{Unknown, Unknown, Unknown, Unknown, Unknown, Unknown, Unknown, Unknown}},
		{"a\u00a0b", []Kind{Unknown}},
	} {
		if got := kindsOf(c.text); !slices.Equal(got, c.want) {
			t.Errorf("Scan(%q) has the kinds %v, want %v", c.text, got, c.want)
		}
	}
}

func TestScanPlacesAndValues(t *testing.T) {
	got := Scan(" a<=b\n:=12 )e ")
	want := []Token{{Variable, 1, 0}, {AtMost, 2, 0}, {Variable, 4, 1}, {Assign, 6, 0}, {Number, 8, 12}, {Close, 11, 0}, {Unknown, 12, 0}, {EndOfText, 14, 0}}
	if !slices.Equal(got, want) {
		t.Errorf("Scan = %v, want %v", got, want)
	}
}

func TestScanNumbers(t *testing.T) {
	for word, want := range map[string]int{"0": 0, "7": 7, "10": 10, "100": 100, "998": 998, "999": 999} {
		if got := Scan(word)[0]; got != (Token{Number, 0, want}) {
			t.Errorf("Scan(%q) = %v, want the number %d", word, got, want)
		}
	}
	for _, word := range []string{"00", "01", "000", "0999", "1000", "9999", "1x", "x1", "1:", "1.0", "٣", "18446744073709551617", strings.Repeat("9", 100000), strings.Repeat("0", 100000)} {
		if got := Scan(word)[0]; got.Kind != Unknown {
			t.Errorf("Scan(%.30q) = %v, want a word that is unknown", word, got)
		}
	}
}
