package logic

import (
	"strconv"
	"strings"

	"avouch/api"
)

// marks are the symbols of one byte, in the order of their kinds.
const marks = "tf!&|>"

// operands are the operands' names, in their order.
const operands = "0abcd"

// Text is a condition as it is written.
func (c Condition) Text() string {
	var text strings.Builder
	for _, symbol := range c {
		text.WriteString(symbol.text())
	}
	return text.String()
}

func (s Symbol) text() string {
	if s.Kind == Atomic {
		return s.Atom.text()
	}
	return marks[s.Kind : s.Kind+1]
}

func (a Atom) text() string {
	return operands[a.Left:a.Left+1] + "-" + operands[a.Right:a.Right+1] + "<=" + strconv.Itoa(a.Bound) + "."
}

// Parse reads a text, and tells whether it is a condition.
func Parse(text string) (Condition, bool) {
	if len(text) > api.MaxCondition {
		return nil, false
	}
	var whole Condition
	missing := 1
	for len(text) > 0 {
		symbol, rest, found := cutSymbol(text)
		if !found || missing == 0 {
			return nil, false
		}
		whole = append(whole, symbol)
		missing += symbol.Kind.parts() - 1
		text = rest
	}
	if missing > 0 {
		return nil, false
	}
	return whole, true
}

// cutSymbol gives the first symbol of a text, and what stands behind it.
func cutSymbol(text string) (Symbol, string, bool) {
	if mark := strings.IndexByte(marks, text[0]); mark >= 0 {
		return Symbol{Kind: Kind(mark)}, text[1:], true
	}
	inner, rest, ended := strings.Cut(text, ".")
	atom, right := parseAtom(inner)
	if !ended || !right {
		return Symbol{}, "", false
	}
	return Symbol{Kind: Atomic, Atom: atom}, rest, true
}

// parseAtom reads an atom without its point.
func parseAtom(text string) (Atom, bool) {
	sides, number, found := strings.Cut(text, "<=")
	if !found || len(sides) != len("a-b") || sides[1] != '-' || sides[0] == sides[2] {
		return Atom{}, false
	}
	left := strings.IndexByte(operands, sides[0])
	right := strings.IndexByte(operands, sides[2])
	bound, inRange := parseBound(number)
	if left < 0 || right < 0 || !inRange {
		return Atom{}, false
	}
	return Atom{Left: Operand(left), Right: Operand(right), Bound: bound}, true
}

// parseBound writes the number that it has read again: a number is written in
// one way alone, so no other sign and no other 0 gets through.
func parseBound(text string) (int, bool) {
	bound, err := strconv.Atoi(text)
	if err != nil || strconv.Itoa(bound) != text {
		return 0, false
	}
	if bound < -api.MaxBound || bound > api.MaxBound {
		return 0, false
	}
	return bound, true
}
