// Package avouch: programs with what is to hold, run and proved: see DOC.md.
package avouch

import (
	"avouch/api"
	"avouch/kernel"
	"avouch/logic"
	"avouch/machine"
	"avouch/prover"
	"avouch/syntax"
	"avouch/weakest"
)

// Check looks whether a text is a program (P3).
func Check(text string) (api.Errno, int) {
	_, errno, place := syntax.Parse(text)
	return errno, place
}

// Run runs a program (P4).
func Run(text string, state api.State, fuel int) (api.Outcome, api.Errno, int) {
	program, errno, place := syntax.Parse(text)
	if errno != api.OK {
		return api.Outcome{}, errno, place
	}
	if !machine.MayBe(state) {
		return api.Outcome{}, api.ErrState, 0
	}
	if fuel < 0 || fuel > api.MaxFuel {
		return api.Outcome{}, api.ErrFuel, 0
	}
	return machine.Run(program.Body, state, fuel), api.OK, 0
}

// Holds tells whether what is to hold ahead of a program, or behind it, holds (P5).
func Holds(text string, behind bool, state api.State) (bool, api.Errno, int) {
	program, errno, place := syntax.Parse(text)
	if errno != api.OK {
		return false, errno, place
	}
	if !machine.MayBe(state) {
		return false, api.ErrState, 0
	}
	if behind {
		return machine.Holds(program.To, state), api.OK, 0
	}
	return machine.Holds(program.From, state), api.OK, 0
}

// Conditions is what has to be proved (P6).
func Conditions(text string) ([]string, api.Errno, int) {
	list, errno, place := conditions(text)
	if errno != api.OK {
		return nil, errno, place
	}
	texts := make([]string, len(list))
	for i, whole := range list {
		texts[i] = whole.Text()
	}
	return texts, api.OK, 0
}

func conditions(text string) ([]logic.Condition, api.Errno, int) {
	program, errno, place := syntax.Parse(text)
	if errno != api.OK {
		return nil, errno, place
	}
	list, fits := weakest.Conditions(program)
	if !fits {
		return nil, api.ErrBig, 0
	}
	return list, api.OK, 0
}

// Value tells whether a condition holds at a state (P7).
func Value(condition string, state api.State) (bool, api.Errno) {
	whole, right := logic.Parse(condition)
	if !right {
		return false, api.ErrCondition
	}
	if !machine.MayBe(state) {
		return false, api.ErrState
	}
	return whole.Holds(state), api.OK
}

// Confirm looks a proof over (P8).
func Confirm(condition string, proof string) (bool, api.Errno) {
	whole, right := logic.Parse(condition)
	if !right {
		return false, api.ErrCondition
	}
	return kernel.New().Confirms(whole, proof), api.OK
}

// Prove proves a condition, or refutes it (P9).
func Prove(condition string, budget int) (api.Answer, api.Errno) {
	whole, right := logic.Parse(condition)
	if !right {
		return api.Answer{}, api.ErrCondition
	}
	if !rightBudget(budget) {
		return api.Answer{}, api.ErrBudget
	}
	return prover.New().Prove(whole, budget), api.OK
}

// Verify proves all conditions of a program (P10).
func Verify(text string, budget int) (api.Answer, api.Errno, int) {
	list, errno, place := conditions(text)
	if errno != api.OK {
		return api.Answer{}, errno, place
	}
	if !rightBudget(budget) {
		return api.Answer{}, api.ErrBudget, 0
	}
	return prover.All(list, budget), api.OK, 0
}

func rightBudget(budget int) bool { return budget >= 0 && budget <= api.MaxBudget }
