package syntax

import (
	"reflect"
	"strings"
	"testing"

	"avouch/api"
)

func variable(index, number int) Term { return Term{Variable: index, Number: number} }

func constant(number int) Term { return Term{Variable: NoVariable, Number: number} }

func compare(left Term, relation Relation, right Term) Formula {
	return Formula{Kind: Compare, Relation: relation, Left: left, Right: right}
}

func of(kind FormulaKind, parts ...Formula) Formula { return Formula{Kind: kind, Parts: parts} }

func TestParseFormulas(t *testing.T) {
	yes, no := Formula{Kind: True}, Formula{Kind: False}
	for text, want := range map[string]Formula{
		"true":                               yes,
		"((false))":                          no,
		"a < b":                              compare(variable(0, 0), Less, variable(1, 0)),
		"c + 999 <= d - 0":                   compare(variable(2, 999), AtMost, variable(3, 0)),
		"- 5 = 7":                            compare(constant(-5), Equal, constant(7)),
		"a - 3 > -0":                         compare(variable(0, -3), Greater, constant(0)),
		"d>=999":                             compare(variable(3, 0), AtLeast, constant(999)),
		"not not true":                       of(Not, of(Not, yes)),
		"not true and false":                 of(And, of(Not, yes), no),
		"not (true and false)":               of(Not, of(And, yes, no)),
		"true or false and true":             of(Or, yes, of(And, no, yes)),
		"(true or false) and true":           of(And, of(Or, yes, no), yes),
		"true or false or true":              of(Or, of(Or, yes, no), yes),
		"true and false and true":            of(And, of(And, yes, no), yes),
		"true and false or not true or true": of(Or, of(Or, of(And, yes, no), of(Not, yes)), yes),
	} {
		program, errno, place := Parse("from " + text + " do skip to " + text)
		if errno != api.OK || place != 0 || !reflect.DeepEqual(program.From, want) || !reflect.DeepEqual(program.To, want) {
			t.Errorf("Parse of the formula %q: %+v, %d, %d, want %+v", text, program, errno, place, want)
		}
	}
}

func TestParseCommands(t *testing.T) {
	yes, no := Formula{Kind: True}, Formula{Kind: False}
	skip := Command{Kind: Skip}
	set := Command{Kind: Assign, Target: 1, Term: variable(3, -9)}
	for text, want := range map[string][]Command{
		"skip":         {skip},
		"b := d - 9":   {set},
		"skip;b:=d-9":  {skip, set},
		"c := - 1":     {{Kind: Assign, Target: 2, Term: constant(-1)}},
		"a := a + 999": {{Kind: Assign, Target: 0, Term: variable(0, 999)}},
		"if true then skip else b := d - 9; skip end; skip": {{Kind: If, Test: yes, First: []Command{skip}, Second: []Command{set, skip}}, skip},
		"while false keep true do skip; b := d - 9 end":     {{Kind: While, Test: no, Keep: yes, First: []Command{skip, set}}},
		"while true keep true do if true then skip else skip end end": {{Kind: While, Test: yes, Keep: yes, First: []Command{
			{Kind: If, Test: yes, First: []Command{skip}, Second: []Command{skip}}}}},
	} {
		program, errno, place := Parse("from true do " + text + " to false")
		if errno != api.OK || place != 0 || !reflect.DeepEqual(program, Program{From: yes, Body: want, To: no}) {
			t.Errorf("Parse of the commands %q: %+v, %d, %d, want %+v", text, program, errno, place, want)
		}
	}
}

func TestParseGivesNothingWithAnError(t *testing.T) {
	for _, text := range []string{"", "from true do skip to", "from true do skip to true true", "from true do skip to " + strings.Repeat("(", 11), strings.Repeat(" ", 301)} {
		if program, errno, _ := Parse(text); errno == api.OK || !reflect.DeepEqual(program, Program{}) {
			t.Errorf("Parse(%.40q) = %+v, %d, want an empty program and an error", text, program, errno)
		}
	}
}
