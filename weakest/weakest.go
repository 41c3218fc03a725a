// Package weakest makes conditions of programs, by the weakest that must hold
// ahead of each command.
package weakest

import (
	"slices"

	"avouch/api"
	"avouch/logic"
	"avouch/syntax"
)

// Conditions are a program's conditions. It tells false, and no condition, if
// one of them, or of those on the way, is too long.
func Conditions(program syntax.Program) ([]logic.Condition, bool) {
	var w walk
	ahead := w.commands(program.Body, formula(program.To))
	w.found(logic.Of(logic.Implies, formula(program.From), ahead))
	if w.tooLong {
		return nil, false
	}
	slices.Reverse(w.list)
	return w.list, true
}

// walk goes through a program from its last command to its first: what must
// hold ahead of a command hangs on what comes behind it. So the conditions are
// found in the reverse of their order.
type walk struct {
	list    []logic.Condition
	tooLong bool
}

func (w *walk) found(whole logic.Condition) {
	w.list = append(w.list, w.bounded(whole))
}

// bounded lets nothing through that is too long. The walk goes on without it,
// to no use, but never with more than twice what may be.
func (w *walk) bounded(whole logic.Condition) logic.Condition {
	if len(whole.Text()) > api.MaxCondition {
		w.tooLong = true
		return nil
	}
	return whole
}

func (w *walk) commands(list []syntax.Command, behind logic.Condition) logic.Condition {
	for i := range slices.Backward(list) {
		behind = w.bounded(w.command(&list[i], behind))
	}
	return behind
}

func (w *walk) command(command *syntax.Command, behind logic.Condition) logic.Condition {
	switch command.Kind {
	case syntax.Assign:
		return behind.Replace(logic.Variable(command.Target), operand(command.Term), command.Term.Number)
	case syntax.If:
		return w.choice(command, behind)
	case syntax.While:
		return w.loop(command, behind)
	}
	return behind
}

func (w *walk) choice(command *syntax.Command, behind logic.Condition) logic.Condition {
	second := w.commands(command.Second, behind)
	first := w.commands(command.First, behind)
	test := formula(command.Test)
	return logic.Of(logic.Or,
		logic.Of(logic.And, test, first),
		logic.Of(logic.And, logic.Of(logic.Not, test), second))
}

// loop goes through what stands within the loop first: those loops begin
// behind this one.
func (w *walk) loop(command *syntax.Command, behind logic.Condition) logic.Condition {
	test, keep := formula(command.Test), formula(command.Keep)
	again := w.commands(command.First, keep)
	w.found(logic.Of(logic.Implies,
		logic.Of(logic.And, keep, logic.Of(logic.Not, test)), behind))
	w.found(logic.Of(logic.Implies,
		logic.Of(logic.And, keep, test), again))
	return keep
}
