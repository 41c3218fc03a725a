package prover

import "avouch/api"

// shortestAtom is how many bytes an atom has at least, as in a-b<=0.
const shortestAtom = 7

const wordBits = 64

// atomSet is a set of atoms' numbers, with room for all that a condition can
// have.
type atomSet [api.MaxCondition/shortestAtom/wordBits + 1]uint64

func (s *atomSet) has(number int) bool {
	return s[number/wordBits]>>(number%wordBits)&1 == 1
}

func (s *atomSet) add(number int) { s[number/wordBits] |= 1 << (number % wordBits) }

// with has what one of the two has.
func (s atomSet) with(other atomSet) atomSet {
	for i, word := range other {
		s[i] |= word
	}
	return s
}
