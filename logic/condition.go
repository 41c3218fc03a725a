// Package logic has what is proved of programs: conditions, as they are
// made, written, read, and asked: at a state, or by what is assumed of their
// atoms.
package logic

import (
	"slices"

	"avouch/api"
)

// Kind is what a symbol of a condition is.
type Kind int

const (
	True Kind = iota
	False
	Not
	And
	Or
	Implies
	Atomic
)

// parts is how many conditions a symbol stands ahead of.
func (k Kind) parts() int {
	switch k {
	case Not:
		return 1
	case And, Or, Implies:
		return 2
	}
	return 0
}

// Operand is one of the two that an atom holds against each other: the number
// 0, or a variable.
type Operand int

// Zero is the number 0; the variables come behind it.
const Zero Operand = 0

// Variable is the operand of a variable, given by its index in a state.
func Variable(index int) Operand { return Operand(index) + 1 }

func (o Operand) value(state api.State) int {
	if o == Zero {
		return 0
	}
	return state[o-1]
}

// Atom says that Left less Right is at most Bound. Left and Right differ.
type Atom struct {
	Left  Operand
	Right Operand
	Bound int
}

func (a Atom) holds(state api.State) bool {
	return a.Left.value(state)-a.Right.value(state) <= a.Bound
}

// If is what an atom says, if it is assumed to be of this truth: itself, or
// that Right less Left is at most what lies one beyond.
func (a Atom) If(truth Truth) Atom {
	if truth == Failing {
		return Atom{Left: a.Right, Right: a.Left, Bound: -a.Bound - 1}
	}
	return a
}

// Symbol is an atom, or one byte of a condition's text.
type Symbol struct {
	Kind Kind
	Atom Atom // of Atomic
}

// AtMost says that left less right is at most bound: an atom, unless the two
// are the same, for then it is settled.
func AtMost(left, right Operand, bound int) Symbol {
	switch {
	case left != right:
		return Symbol{Kind: Atomic, Atom: Atom{Left: left, Right: right, Bound: bound}}
	case bound >= 0:
		return Symbol{Kind: True}
	}
	return Symbol{Kind: False}
}

// Condition is a list of symbols in the order of its text, each ahead of its
// parts: so conditions are put together, and gone through, without going down
// into them.
type Condition []Symbol

// Of makes one condition of a kind's parts.
func Of(kind Kind, parts ...Condition) Condition {
	whole := Condition{{Kind: kind}}
	return slices.Concat(whole, slices.Concat(parts...))
}

// Replace puts by + number in the place of an operand, in each atom.
func (c Condition) Replace(old, by Operand, number int) Condition {
	replaced := make(Condition, len(c))
	for i, symbol := range c {
		replaced[i] = symbol.replace(old, by, number)
	}
	return replaced
}

func (s Symbol) replace(old, by Operand, number int) Symbol {
	if s.Kind != Atomic {
		return s
	}
	switch old {
	case s.Atom.Left:
		return AtMost(by, s.Atom.Right, s.Atom.Bound-number)
	case s.Atom.Right:
		return AtMost(s.Atom.Left, by, s.Atom.Bound+number)
	}
	return s
}

// Atoms are a condition's atoms, each once, in the order in which they come
// first: an atom's place here is its number.
func (c Condition) Atoms() []Atom {
	var atoms []Atom
	for _, symbol := range c {
		if symbol.Kind == Atomic && !slices.Contains(atoms, symbol.Atom) {
			atoms = append(atoms, symbol.Atom)
		}
	}
	return atoms
}

// Holds tells whether a condition holds at a state.
func (c Condition) Holds(state api.State) bool {
	at := func(atom Atom) Truth { return truthOf(atom.holds(state)) }
	return c.settle(at) == Holding
}

// Settled is what is known of a condition, by what is assumed of its atoms; of
// those that are not in the map nothing is.
func (c Condition) Settled(assumed map[Atom]Truth) Truth {
	return c.settle(func(atom Atom) Truth { return assumed[atom] })
}

// settle goes from the last symbol to the first, so that what is known of a
// symbol's parts is there when the symbol comes.
func (c Condition) settle(known func(Atom) Truth) Truth {
	truths := make([]Truth, 0, len(c))
	for i := len(c) - 1; i >= 0; i-- {
		rest := len(truths) - c[i].Kind.parts()
		truth := c[i].settle(known, truths[rest:])
		truths = append(truths[:rest], truth)
	}
	return truths[0]
}

// settle gets what is known of the parts, the second part's first.
func (s *Symbol) settle(known func(Atom) Truth, parts []Truth) Truth {
	switch s.Kind {
	case True:
		return Holding
	case Not:
		return parts[0].Not()
	case And:
		return Both(parts[1], parts[0])
	case Or:
		return Either(parts[1], parts[0])
	case Implies:
		return Either(parts[1].Not(), parts[0])
	case Atomic:
		return known(s.Atom)
	}
	return Failing
}
