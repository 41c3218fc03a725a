package weakest

import (
	"avouch/logic"
	"avouch/syntax"
)

// formula is a formula as a condition.
func formula(f syntax.Formula) logic.Condition {
	switch f.Kind {
	case syntax.True:
		return logic.Of(logic.True)
	case syntax.Compare:
		return comparison(f)
	case syntax.Not:
		return logic.Of(logic.Not, formula(f.Parts[0]))
	case syntax.And:
		return logic.Of(logic.And, formula(f.Parts[0]), formula(f.Parts[1]))
	case syntax.Or:
		return logic.Of(logic.Or, formula(f.Parts[0]), formula(f.Parts[1]))
	}
	return logic.Of(logic.False)
}

func comparison(f syntax.Formula) logic.Condition {
	switch f.Relation {
	case syntax.Less:
		return below(f.Left, f.Right)
	case syntax.AtMost:
		return atMost(f.Left, f.Right)
	case syntax.Greater:
		return below(f.Right, f.Left)
	case syntax.AtLeast:
		return atMost(f.Right, f.Left)
	}
	return logic.Of(logic.And, atMost(f.Left, f.Right), atMost(f.Right, f.Left))
}

func atMost(left, right syntax.Term) logic.Condition {
	return logic.Condition{logic.AtMost(operand(left), operand(right), right.Number-left.Number)}
}

func below(left, right syntax.Term) logic.Condition {
	right.Number--
	return atMost(left, right)
}

func operand(term syntax.Term) logic.Operand {
	if term.Variable == syntax.NoVariable {
		return logic.Zero
	}
	return logic.Variable(term.Variable)
}
