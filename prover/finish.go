package prover

import (
	"slices"
	"strconv"
	"strings"

	"avouch/api"
	"avouch/logic"
)

// finish is the proof at the end of a branch, where the goal fails. The atoms
// that settle it, and are not assumed, follow from what is; so each of them is
// split here, and what goes against it is a cycle.
func (p *Prover) finish(known *bounds) ending {
	end := ending{verdict: api.Proved, proof: "."}
	reasons := p.reasons(known)
	for number := range p.atoms {
		if !reasons.has(number) {
			continue
		}
		if _, assumed := p.assumed[number]; assumed {
			end.needed.add(number)
			continue
		}
		by := known.reason(p.atoms[number], p.truths[number])
		for _, reason := range by {
			end.needed.add(reason)
		}
		cycle := cycleText(number, by)
		if p.truths[number] == logic.Holding {
			end.proof = splitText(number, end.proof, cycle)
		} else {
			end.proof = splitText(number, cycle, end.proof)
		}
	}
	return end
}

// cycleText says that an atom, against what follows from others, can't be.
func cycleText(number int, by []int) string {
	var words []string
	for _, n := range append([]int{number}, by...) {
		words = append(words, strconv.Itoa(n))
	}
	return "!" + strings.Join(words, ",") + ";"
}

// reasons are atoms by which alone the goal fails: where one of two parts is
// enough, the lighter one.
func (p *Prover) reasons(known *bounds) atomSet {
	weights := p.weights(known)
	var reasons atomSet
	asked := make([]bool, len(p.goal))
	asked[0] = true
	for place, this := range p.goal {
		if !asked[place] {
			continue
		}
		switch this.kind {
		case both:
			if weights[place+1] <= weights[this.second] {
				asked[place+1] = true
			} else {
				asked[this.second] = true
			}
		case either:
			asked[place+1], asked[this.second] = true, true
		case literal:
			reasons.add(this.atom)
		}
	}
	return reasons
}

// tooHeavy is above all weights of parts that fail.
const tooHeavy = 1 << 30

// weights tell how much a proof takes up in which each of the parts fails.
func (p *Prover) weights(known *bounds) []int {
	weights := make([]int, len(p.goal))
	for place, this := range slices.Backward(p.goal) {
		switch {
		case p.parts[place] != logic.Failing:
			weights[place] = tooHeavy
		case this.kind == both:
			weights[place] = min(weights[place+1], weights[this.second])
		case this.kind == either:
			weights[place] = weights[place+1] + weights[this.second]
		case this.kind == literal:
			weights[place] = p.weight(this.atom, known)
		}
	}
	return weights
}

func (p *Prover) weight(number int, known *bounds) int {
	if _, assumed := p.assumed[number]; assumed {
		return 1
	}
	return 2 + len(known.reason(p.atoms[number], p.truths[number]))
}
