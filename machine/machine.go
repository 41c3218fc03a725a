// Package machine runs programs, and tells which formulas hold at a state.
package machine

import (
	"avouch/api"
	"avouch/syntax"
)

// MayBe tells whether no variable of a state is too great or too small.
func MayBe(state api.State) bool {
	for _, value := range state {
		if !inRange(value) {
			return false
		}
	}
	return true
}

func inRange(value int) bool { return -api.MaxValue <= value && value <= api.MaxValue }

// Holds tells whether a formula holds at a state.
func Holds(formula syntax.Formula, state api.State) bool {
	switch formula.Kind {
	case syntax.True:
		return true
	case syntax.Compare:
		return compare(formula.Relation, valueOf(formula.Left, state), valueOf(formula.Right, state))
	case syntax.Not:
		return !Holds(formula.Parts[0], state)
	case syntax.And:
		return Holds(formula.Parts[0], state) && Holds(formula.Parts[1], state)
	case syntax.Or:
		return Holds(formula.Parts[0], state) || Holds(formula.Parts[1], state)
	}
	return false
}

func compare(relation syntax.Relation, left, right int) bool {
	switch relation {
	case syntax.Less:
		return left < right
	case syntax.AtMost:
		return left <= right
	case syntax.Equal:
		return left == right
	case syntax.Greater:
		return left > right
	}
	return left >= right
}

func valueOf(term syntax.Term, state api.State) int {
	if term.Variable == syntax.NoVariable {
		return term.Number
	}
	return state[term.Variable] + term.Number
}
