package prover

import (
	"strconv"
	"strings"
	"testing"

	"avouch/api"
	"avouch/logic"
)

// row is a list of conditions of which each needs a proof of its own: that of
// number n asks of n atoms.
func row(t *testing.T, count int) []logic.Condition {
	t.Helper()
	var list []logic.Condition
	for n := range count {
		text := strings.Repeat("&", n)
		for i := range n {
			atom := "a-b<=" + strconv.Itoa(i) + "."
			text += "|" + atom + "!" + atom
		}
		list = append(list, mustParse(t, text+"t"))
	}
	return list
}

// TestAllLaysEachAnswerAtItsPlace, with fewer conditions than workers, as
// many, and more.
func TestAllLaysEachAnswerAtItsPlace(t *testing.T) {
	for count := range 5 * workers {
		list := row(t, count)
		for range 5 {
			got := All(list, api.MaxBudget)
			if got.Verdict != api.Proved || got.Index != 0 || len(got.Proofs) != count {
				t.Fatalf("of %d conditions: %+v", count, got)
			}
			for i, whole := range list {
				if want := New().Prove(whole, api.MaxBudget); got.Proofs[i] != want.Proofs[0] {
					t.Errorf("of %d conditions at %d: %q, want %q", count, i, got.Proofs[i], want.Proofs[0])
				}
			}
		}
	}
}

func TestAllTellsTheFirstThatIsNotProved(t *testing.T) {
	const count = 4 * workers
	for index := range count {
		list := row(t, count)
		for later := index; later < count; later += 3 {
			list[later] = mustParse(t, "|a-b<="+strconv.Itoa(later)+".f")
		}
		want := New().Prove(list[index], api.MaxBudget)
		got := All(list, api.MaxBudget)
		if got.Verdict != api.Refuted || got.Index != index || !same(got, want) {
			t.Errorf("%+v, want %+v at %d", got, want, index)
		}
	}
}

// TestAllGivesEachTheWholeBudget: what one condition takes is no other's loss.
func TestAllGivesEachTheWholeBudget(t *testing.T) {
	whole := row(t, 4)[3]
	least := 0
	for New().Prove(whole, least).Verdict == api.Unknown {
		least++
	}
	var list []logic.Condition
	for range 3 * workers {
		list = append(list, whole)
	}
	if got := All(list, least); got.Verdict != api.Proved || len(got.Proofs) != len(list) {
		t.Errorf("with %d: %+v", least, got)
	}
	if got := All(list, least-1); !same(got, api.Answer{Verdict: api.Unknown}) || got.Index != 0 {
		t.Errorf("with %d: %+v", least-1, got)
	}
}
