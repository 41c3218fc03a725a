package prover

import (
	"slices"

	"avouch/api"
	"avouch/logic"
)

// bound is the least that an operand less another one is known to be at most,
// and the assumed atoms, by their numbers, from which it follows: each one's
// right operand is the next one's left one.
type bound struct {
	known bool
	most  int
	by    []int
}

// bounds are those of each operand less each other one, by all that is
// assumed. What is assumed can be: no operand less itself is below 0.
type bounds [api.Vars + 1][api.Vars + 1]bound

func noBounds() bounds {
	var b bounds
	for operand := range b {
		b[operand][operand].known = true
	}
	return b
}

// with is what is known, if one atom more is assumed; number is its number. No
// bound goes through an operand twice, for then it would be no less than the
// one that leaves the way in between out.
func (b *bounds) with(atom logic.Atom, number int) bounds {
	more := *b
	for left := range b {
		for right := range b {
			ahead, behind := &b[left][atom.Left], &b[atom.Right][right]
			most := ahead.most + atom.Bound + behind.most
			old := &more[left][right]
			if !ahead.known || !behind.known || old.known && old.most <= most {
				continue
			}
			*old = bound{known: true, most: most, by: slices.Concat(ahead.by, []int{number}, behind.by)}
		}
	}
	return more
}

// truth is what follows of an atom.
func (b *bounds) truth(atom logic.Atom) logic.Truth {
	switch {
	case b.imply(atom):
		return logic.Holding
	case b.imply(atom.If(logic.Failing)):
		return logic.Failing
	}
	return logic.Open
}

func (b *bounds) imply(atom logic.Atom) bool {
	known := &b[atom.Left][atom.Right]
	return known.known && known.most <= atom.Bound
}

// reason is why an atom that is not assumed is of this truth.
func (b *bounds) reason(atom logic.Atom, truth logic.Truth) []int {
	said := atom.If(truth)
	return b[said.Left][said.Right].by
}

// state is one at which all that is assumed holds: each operand is as great as
// it may be if none is above 0, and then all are moved so that 0 is 0.
func (b *bounds) state() api.State {
	var state api.State
	zero := b.greatest(logic.Zero)
	for i := range state {
		state[i] = b.greatest(logic.Variable(i)) - zero
	}
	return state
}

func (b *bounds) greatest(operand logic.Operand) int {
	least := 0
	for _, bound := range b[operand] {
		if bound.known {
			least = min(least, bound.most)
		}
	}
	return least
}
