package prover

import "avouch/logic"

// role is what a part of the goal is to a search.
type role int8

const (
	idle    role = iota // nothing hangs on it
	helpful             // it may help to the goal
	crucial             // without it the goal fails
)

// pick chooses the literal to go on with: the first one without which the goal
// fails, for then one branch ends at once; else the first one that may help.
func (p *Prover) pick() part {
	roles := make([]role, len(p.goal))
	roles[0] = crucial
	var choice part
	found := false
	for place, this := range p.goal {
		if p.parts[place] != logic.Open || roles[place] == idle {
			continue
		}
		switch this.kind {
		case both:
			roles[place+1], roles[this.second] = roles[place], roles[place]
		case either:
			passed := helpful
			if p.parts[place+1] == logic.Failing || p.parts[this.second] == logic.Failing {
				passed = roles[place]
			}
			roles[place+1], roles[this.second] = passed, passed
		case literal:
			if roles[place] == crucial {
				return this
			}
			if !found {
				choice, found = this, true
			}
		}
	}
	return choice
}
