// Package kernel looks proofs of conditions over. It knows nothing of how they
// are found: what it confirms holds, whoever has written the proof.
package kernel

import (
	"strconv"
	"strings"

	"avouch/api"
	"avouch/logic"
)

// Kernel looks over one proof behind another, but no two at the same time.
type Kernel struct {
	whole   logic.Condition
	atoms   []logic.Atom
	rest    string // of the proof
	assumed map[logic.Atom]logic.Truth
}

// New is a kernel that has nothing assumed.
func New() *Kernel { return &Kernel{assumed: map[logic.Atom]logic.Truth{}} }

// Confirms tells whether a text is a proof of a condition.
func (k *Kernel) Confirms(whole logic.Condition, proof string) bool {
	if len(proof) > api.MaxProof {
		return false
	}
	k.whole, k.atoms, k.rest = whole, whole.Atoms(), proof
	clear(k.assumed) // a proof that was refused has not gone all the way back
	return k.proof() && k.rest == ""
}

// proof goes no deeper than there are atoms: each one is assumed but once on
// the way down.
func (k *Kernel) proof() bool {
	switch {
	case k.take("."):
		return k.whole.Settled(k.assumed) == logic.Holding
	case k.take("!"):
		return k.cycle()
	case k.take("?"):
		return k.split()
	}
	return false
}

func (k *Kernel) split() bool {
	atom, found := k.atom()
	if !found || k.assumed[atom] != logic.Open || !k.take(":") {
		return false
	}
	k.assumed[atom] = logic.Holding
	if !k.proof() {
		return false
	}
	k.assumed[atom] = logic.Failing
	if !k.proof() {
		return false
	}
	delete(k.assumed, atom)
	return true
}

// cycle looks whether what is assumed comes back to its beginning, so that all
// operands fall out, and says that 0 is at most a number below 0.
func (k *Kernel) cycle() bool {
	list, right := k.assumptions()
	if !right {
		return false
	}
	sum, last := 0, list[len(list)-1]
	for _, next := range list {
		if last.Right != next.Left {
			return false
		}
		sum += next.Bound
		last = next
	}
	return sum < 0
}

// assumptions are what is assumed of each of the atoms named up to the `;`.
func (k *Kernel) assumptions() ([]logic.Atom, bool) {
	var list []logic.Atom
	for {
		atom, found := k.atom()
		truth := k.assumed[atom]
		if !found || truth == logic.Open {
			return nil, false
		}
		list = append(list, atom.If(truth))
		if !k.take(",") {
			return list, k.take(";")
		}
	}
}

// atom takes an atom's number.
func (k *Kernel) atom() (logic.Atom, bool) {
	behind := strings.TrimLeft(k.rest, "0123456789")
	digits := k.rest[:len(k.rest)-len(behind)]
	k.rest = behind
	number, err := strconv.Atoi(digits)
	if err != nil || strconv.Itoa(number) != digits || number >= len(k.atoms) {
		return logic.Atom{}, false
	}
	return k.atoms[number], true
}

func (k *Kernel) take(mark string) bool {
	rest, found := strings.CutPrefix(k.rest, mark)
	k.rest = rest
	return found
}
