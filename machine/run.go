package machine

import (
	"avouch/api"
	"avouch/syntax"
)

// Run does commands from a state on, at most fuel steps of them.
func Run(commands []syntax.Command, state api.State, fuel int) api.Outcome {
	r := run{fuel: fuel, outcome: api.Outcome{Kind: api.Done, State: state}}
	r.commands(commands)
	return r.outcome
}

// run is how far a run has come. Each of its methods tells whether the run
// goes on; if it does not, the outcome says why.
type run struct {
	fuel    int
	outcome api.Outcome
}

func (r *run) commands(list []syntax.Command) bool {
	for i := range list {
		if !r.command(&list[i]) {
			return false
		}
	}
	return true
}

func (r *run) command(command *syntax.Command) bool {
	switch command.Kind {
	case syntax.Assign:
		return r.assign(command.Target, command.Term)
	case syntax.If:
		return r.choose(command)
	case syntax.While:
		return r.repeat(command)
	}
	return r.step()
}

// hasFuel is asked ahead of every step, whatever the step is.
func (r *run) hasFuel() bool {
	if r.outcome.Steps < r.fuel {
		return true
	}
	r.outcome.Kind = api.Spent
	return false
}

func (r *run) step() bool {
	if !r.hasFuel() {
		return false
	}
	r.outcome.Steps++
	return true
}

// assign looks at the fuel first: without fuel a run is spent, even if the
// value would be too great; and such an assignment is no step.
func (r *run) assign(target int, term syntax.Term) bool {
	if !r.hasFuel() {
		return false
	}
	value := valueOf(term, r.outcome.State)
	if !inRange(value) {
		r.outcome.Kind = api.Over
		return false
	}
	r.outcome.State[target] = value
	return r.step()
}

func (r *run) choose(command *syntax.Command) bool {
	if !r.step() {
		return false
	}
	if Holds(command.Test, r.outcome.State) {
		return r.commands(command.First)
	}
	return r.commands(command.Second)
}

// repeat ends, for each time around it is at least one step.
func (r *run) repeat(command *syntax.Command) bool {
	for r.step() {
		if !Holds(command.Test, r.outcome.State) {
			return true
		}
		if !r.commands(command.First) {
			return false
		}
	}
	return false
}
