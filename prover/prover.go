// Package prover proves conditions, or refutes them. It looks for a state at
// which the condition fails; if there is none, the way on which it looked is
// the proof.
package prover

import (
	"strconv"

	"avouch/api"
	"avouch/kernel"
	"avouch/logic"
)

// Prover proves one condition behind another, but no two at the same time.
type Prover struct {
	kernel  *kernel.Kernel
	atoms   []logic.Atom
	goal    goal
	steps   int                 // that may still be done
	assumed map[int]logic.Truth // by the atoms' numbers
	truths  []logic.Truth       // what follows of the atoms, by their numbers
	parts   []logic.Truth       // what follows of the goal's parts
}

// New is a prover that has nothing assumed.
func New() *Prover {
	return &Prover{kernel: kernel.New(), assumed: map[int]logic.Truth{}}
}

// Prove looks at a condition for as many steps as the budget has. The way on
// which it looks does not hang on the budget, so more of it changes nothing
// that was found with less.
func (p *Prover) Prove(whole logic.Condition, budget int) api.Answer {
	p.begin(whole, budget)
	end := p.search(noBounds())
	switch {
	case end.verdict == api.Refuted:
		return api.Answer{Verdict: api.Refuted, Model: end.model}
	case end.verdict == api.Proved && p.kernel.Confirms(whole, end.proof):
		return api.Answer{Verdict: api.Proved, Proofs: []string{end.proof}}
	}
	return api.Answer{Verdict: api.Unknown}
}

func (p *Prover) begin(whole logic.Condition, budget int) {
	p.atoms = whole.Atoms()
	p.goal = goalOf(whole, p.atoms)
	p.steps = budget
	clear(p.assumed) // a search that found a state, or ran out, has not gone all the way back
	p.truths = make([]logic.Truth, len(p.atoms))
	p.parts = make([]logic.Truth, len(p.goal))
}

// ending is how a search, or a branch of it, ended.
type ending struct {
	verdict int
	proof   string    // of Proved
	needed  atomSet   // of Proved: the atoms of which the proof needs what is assumed
	model   api.State // of Refuted
}

// search looks for a state at which the goal holds, and all that is assumed.
func (p *Prover) search(known bounds) ending {
	if p.steps == 0 {
		return ending{verdict: api.Unknown}
	}
	p.steps--
	p.look(&known)
	switch p.parts[0] {
	case logic.Holding:
		return ending{verdict: api.Refuted, model: known.state()}
	case logic.Failing:
		return p.finish(&known)
	}
	return p.split(p.pick(), &known)
}

// look finds what is known of the atoms, and of the goal's parts.
func (p *Prover) look(known *bounds) {
	for number, atom := range p.atoms {
		truth, assumed := p.assumed[number]
		if !assumed {
			truth = known.truth(atom)
		}
		p.truths[number] = truth
	}
	p.goal.truths(p.parts, p.truths)
}

// split looks at both branches, the one that helps to the goal first. A proof
// that does not need what it was given to assume is one without it.
func (p *Prover) split(choice part, known *bounds) ending {
	helping := p.assume(choice.atom, choice.wanted, known)
	if helping.verdict != api.Proved || !helping.needed.has(choice.atom) {
		return helping
	}
	other := p.assume(choice.atom, choice.wanted.Not(), known)
	if other.verdict != api.Proved || !other.needed.has(choice.atom) {
		return other
	}
	whole := ending{verdict: api.Proved, needed: helping.needed.with(other.needed)}
	if choice.wanted == logic.Holding {
		whole.proof = splitText(choice.atom, helping.proof, other.proof)
	} else {
		whole.proof = splitText(choice.atom, other.proof, helping.proof)
	}
	return whole
}

// assume looks at one branch. The way goes back from it only if it is proved:
// else the whole search is at its end.
func (p *Prover) assume(number int, truth logic.Truth, known *bounds) ending {
	p.assumed[number] = truth
	end := p.search(known.with(p.atoms[number].If(truth), number))
	if end.verdict == api.Proved {
		delete(p.assumed, number)
	}
	return end
}

// splitText is a proof by two branches. What is too long already stays so, but
// grows no more.
func splitText(number int, holding, failing string) string {
	switch {
	case len(holding) > api.MaxProof:
		return holding
	case len(failing) > api.MaxProof:
		return failing
	}
	return "?" + strconv.Itoa(number) + ":" + holding + failing
}
