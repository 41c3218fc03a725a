package prover

import (
	"slices"

	"avouch/logic"
)

// partKind is what a part of a goal is.
type partKind int

const (
	always  partKind = iota
	never            // fails, whatever is assumed
	both             // both of its parts are to hold
	either           // one of its parts is to hold
	literal          // an atom is to hold, or to fail
)

// part is one part of a goal. The first of its own two parts stands right
// behind it.
type part struct {
	kind   partKind
	second int         // of both and either: the place of the second part
	atom   int         // of a literal: the atom's number
	wanted logic.Truth // of a literal
}

// goal is what holds just where a condition fails. All that is denied are
// atoms, so each part helps to the goal, or does not, but never harms. A part
// stands ahead of its own parts, and the whole is the first one.
type goal []part

// goalOf is where a condition fails.
func goalOf(whole logic.Condition, atoms []logic.Atom) goal {
	var g goal
	g.add(whole, atoms, logic.Failing)
	return g
}

// add adds the condition with which a list begins, as it is wanted, and gives
// what stands behind it.
func (g *goal) add(list logic.Condition, atoms []logic.Atom, wanted logic.Truth) logic.Condition {
	for list[0].Kind == logic.Not {
		list, wanted = list[1:], wanted.Not()
	}
	symbol, rest := list[0], list[1:]
	place := len(*g)
	*g = append(*g, part{kind: kindOf(symbol.Kind, wanted)})
	switch symbol.Kind {
	case logic.Atomic:
		(*g)[place].atom = slices.Index(atoms, symbol.Atom)
		(*g)[place].wanted = wanted
	case logic.And, logic.Or, logic.Implies:
		first := wanted
		if symbol.Kind == logic.Implies {
			first = wanted.Not()
		}
		rest = g.add(rest, atoms, first)
		(*g)[place].second = len(*g)
		rest = g.add(rest, atoms, wanted)
	}
	return rest
}

func kindOf(kind logic.Kind, wanted logic.Truth) partKind {
	holding := wanted == logic.Holding
	switch kind {
	case logic.Atomic:
		return literal
	case logic.True, logic.False:
		if holding == (kind == logic.True) {
			return always
		}
		return never
	}
	if holding == (kind == logic.And) {
		return both
	}
	return either
}

// truths fills in what is known of each part, by what is known of the atoms.
func (g goal) truths(parts, atoms []logic.Truth) {
	for place, p := range slices.Backward(g) {
		switch p.kind {
		case always:
			parts[place] = logic.Holding
		case never:
			parts[place] = logic.Failing
		case both:
			parts[place] = logic.Both(parts[place+1], parts[p.second])
		case either:
			parts[place] = logic.Either(parts[place+1], parts[p.second])
		case literal:
			parts[place] = atoms[p.atom]
			if p.wanted == logic.Failing {
				parts[place] = atoms[p.atom].Not()
			}
		}
	}
}
