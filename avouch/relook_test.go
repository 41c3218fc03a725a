package avouch_test

import (
	"regexp"
	"slices"
	"strconv"
	"strings"
	"testing"

	"avouch/api"
	"avouch/avouch"
)

func digits(n int) string { return strconv.Itoa(n) }

// atomsOf are a condition's atoms by their numbers.
func atomsOf(condition string) []string {
	var atoms []string
	for _, atom := range atomForm.FindAllString(condition, -1) {
		if !slices.Contains(atoms, atom) {
			atoms = append(atoms, atom)
		}
	}
	return atoms
}

// threefold is a second reader of what is assumed: 0 fails, 1 is open, 2 holds.
func threefold(text string, assumed map[string]int) (truth int, rest string) {
	if found := atomBegins.FindString(text); found != "" {
		if truth, known := assumed[found]; known {
			return truth, text[len(found):]
		}
		return 1, text[len(found):]
	}
	switch text[0] {
	case 't':
		return 2, text[1:]
	case 'f':
		return 0, text[1:]
	}
	first, rest := threefold(text[1:], assumed)
	if text[0] == '!' {
		return 2 - first, rest
	}
	second, rest := threefold(rest, assumed)
	switch text[0] {
	case '&':
		return min(first, second), rest
	case '|':
		return max(first, second), rest
	}
	return max(2-first, second), rest
}

var (
	splitBegins = regexp.MustCompile(`^\?(0|[1-9][0-9]*):`)
	cycleBegins = regexp.MustCompile(`^!((0|[1-9][0-9]*)(,(0|[1-9][0-9]*))*);`)
)

// said is what is assumed by an atom of this truth: u - v <= n.
func said(atom string, truth int) (u, v string, n int) {
	found := atomForm.FindStringSubmatch(atom)
	n, _ = strconv.Atoi(found[3])
	if truth == 0 {
		return found[2], found[1], -n - 1
	}
	return found[1], found[2], n
}

func canNotBe(numbers string, atoms []string, assumed map[string]int) bool {
	sum := 0
	var lefts, rights []string
	for word := range strings.SplitSeq(numbers, ",") {
		k, err := strconv.Atoi(word)
		if err != nil || k >= len(atoms) {
			return false
		}
		truth, known := assumed[atoms[k]]
		if !known {
			return false
		}
		u, v, n := said(atoms[k], truth)
		lefts, rights, sum = append(lefts, u), append(rights, v), sum+n
	}
	return sum < 0 && slices.Equal(append(lefts[1:], lefts[0]), rights)
}

// relook is a second kernel: whether a proof stands at the beginning of a
// text, and what stands behind it.
func relook(condition, text string, atoms []string, assumed map[string]int) (rest string, right bool) {
	if rest, found := strings.CutPrefix(text, "."); found {
		truth, _ := threefold(condition, assumed)
		return rest, truth == 2
	}
	if found := cycleBegins.FindStringSubmatch(text); found != nil {
		return text[len(found[0]):], canNotBe(found[1], atoms, assumed)
	}
	found := splitBegins.FindStringSubmatch(text)
	if found == nil {
		return "", false
	}
	k, err := strconv.Atoi(found[1])
	if err != nil || k >= len(atoms) {
		return "", false
	}
	if _, known := assumed[atoms[k]]; known {
		return "", false
	}
	rest = text[len(found[0]):]
	for _, truth := range []int{2, 0} {
		below := map[string]int{atoms[k]: truth}
		for atom, truth := range assumed {
			below[atom] = truth
		}
		if rest, right = relook(condition, rest, atoms, below); !right {
			return "", false
		}
	}
	return rest, true
}

// proofMaker makes proofs of chance: right ones of what can be proved.
type proofMaker struct {
	*dice
	condition string
	atoms     []string
}

// cycle is one of what is assumed that can't be, or nothing.
func (m proofMaker) cycle(assumed map[string]int) string {
	for i := range m.atoms {
		for j := range m.atoms {
			for _, words := range [][]int{{i, j}, {i, j, m.below(len(m.atoms))}} {
				var texts []string
				for _, k := range words {
					texts = append(texts, digits(k))
				}
				if numbers := strings.Join(texts, ","); canNotBe(numbers, m.atoms, assumed) {
					return "!" + numbers + ";"
				}
			}
		}
	}
	return ""
}

func (m proofMaker) proof(assumed map[string]int) string {
	truth, _ := threefold(m.condition, assumed)
	if truth == 2 && m.below(4) > 0 {
		return "."
	}
	if cycle := m.cycle(assumed); cycle != "" && m.below(4) > 0 {
		return cycle
	}
	if len(assumed) == len(m.atoms) {
		return "."
	}
	k := m.below(len(m.atoms))
	for _, known := assumed[m.atoms[k]]; known; _, known = assumed[m.atoms[k]] {
		k = (k + 1) % len(m.atoms)
	}
	assumed[m.atoms[k]] = 2
	first := m.proof(assumed)
	assumed[m.atoms[k]] = 0
	second := m.proof(assumed)
	delete(assumed, m.atoms[k])
	return "?" + digits(k) + ":" + first + second
}

func (m proofMaker) spoilt(proof string) string {
	if proof == "" {
		return "."
	}
	at := m.below(len(proof))
	mark := m.of(strings.Split(".!?:;,01234", ""))
	switch m.below(4) {
	case 0:
		return proof[:at] + proof[at+1:]
	case 1:
		return proof[:at] + mark + proof[at:]
	case 2:
		return proof[:at] + mark + proof[at+1:]
	}
	other := m.below(len(proof))
	return proof[:min(at, other)] + proof[max(at, other):]
}

// TestConfirmAgainstASecondKernel looks over proofs of chance, and what is
// nearly a proof. A condition that has a proof must hold wherever it is asked
// (P11).
func TestConfirmAgainstASecondKernel(t *testing.T) {
	d := dice(17)
	var counts [2][2]int
	for range 6000 {
		condition := chanceCondition(&d, d.below(5))
		if d.below(2) == 0 {
			condition = "|" + condition + ">" + chanceCondition(&d, 1) + chanceCondition(&d, 2)
		}
		m := proofMaker{&d, condition, atomsOf(condition)}
		if len(m.atoms) > 6 {
			continue
		}
		right := m.proof(map[string]int{})
		for spoils, proof := range []string{right, m.spoilt(right), m.spoilt(m.spoilt(right))} {
			if proof == "" {
				continue
			}
			rest, want := relook(condition, proof, m.atoms, map[string]int{})
			want = want && rest == ""
			wantConfirm(t, condition, proof, want)
			counts[min(spoils, 1)][map[bool]int{true: 1}[want]]++
			if want {
				wantEverywhere(t, &d, condition)
			}
		}
	}
	if counts[0][0] < 500 || counts[0][1] < 500 || counts[1][0] < 500 || counts[1][1] < 200 {
		t.Errorf("wrong and right proofs as made %d, spoilt %d: they look too little over", counts[0], counts[1])
	}
}

// wantEverywhere asks a condition at states of chance, where the bounds of its
// atoms lie.
func wantEverywhere(t *testing.T, d *dice, condition string) {
	t.Helper()
	for range 20 {
		state := api.State{d.below(25) - 12, d.below(25) - 12, d.below(25) - 12, d.below(25) - 12}
		if d.below(20) == 0 {
			state[d.below(4)] = api.MaxValue
			state[d.below(4)] = -api.MaxValue
		}
		if value, errno := avouch.Value(condition, state); !value || errno != api.OK {
			t.Fatalf("P11: %q has a proof, but at %v it is %v, %d", condition, state, value, errno)
		}
	}
}
