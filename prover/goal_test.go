package prover

import (
	"slices"
	"testing"

	"avouch/logic"
)

func TestGoals(t *testing.T) {
	lit := func(atom int, wanted logic.Truth) part { return part{kind: literal, atom: atom, wanted: wanted} }
	const holding, failing = logic.Holding, logic.Failing
	for text, want := range map[string]goal{
		"t":                   {{kind: never}},
		"!t":                  {{kind: always}},
		"f":                   {{kind: always}},
		"!!!f":                {{kind: never}},
		"a-b<=0.":             {lit(0, failing)},
		"!a-b<=0.":            {lit(0, holding)},
		"&a-b<=0.b-a<=0.":     {{kind: either, second: 2}, lit(0, failing), lit(1, failing)},
		"!&a-b<=0.a-b<=0.":    {{kind: both, second: 2}, lit(0, holding), lit(0, holding)},
		"|a-b<=0.!b-a<=0.":    {{kind: both, second: 2}, lit(0, failing), lit(1, holding)},
		"!|a-b<=0.b-a<=0.":    {{kind: either, second: 2}, lit(0, holding), lit(1, holding)},
		">a-b<=0.b-a<=0.":     {{kind: both, second: 2}, lit(0, holding), lit(1, failing)},
		"!>a-b<=0.b-a<=0.":    {{kind: either, second: 2}, lit(0, failing), lit(1, holding)},
		"|&ta-b<=0.>fa-b<=0.": {{kind: both, second: 4}, {kind: either, second: 3}, {kind: never}, lit(0, failing), {kind: both, second: 6}, {kind: never}, lit(0, failing)},
	} {
		whole := mustParse(t, text)
		if got := goalOf(whole, whole.Atoms()); !slices.Equal(got, want) {
			t.Errorf("the goal of %q: %+v, want %+v", text, got, want)
		}
	}
}

// TestPick: what the goal can't do without comes first.
func TestPick(t *testing.T) {
	for text, want := range map[string]int{
		">|a-b<=0.a-c<=0.a-d<=0.":   2,
		">|a-b<=0.fa-d<=0.":         0,
		">&a-b<=0.a-c<=0.a-d<=0.":   0,
		">|a-b<=0.a-c<=0.&ta-d<=0.": 2,
		"&a-b<=0.a-c<=0.":           0,
		"&|ta-b<=0.a-c<=0.":         1,
	} {
		p := New()
		p.begin(mustParse(t, text), 1)
		b := noBounds()
		p.look(&b)
		if got := p.pick(); got.atom != want {
			t.Errorf("of %q atom %d is picked, want %d", text, got.atom, want)
		}
	}
}

func TestAtomSet(t *testing.T) {
	var s, other atomSet
	for _, number := range []int{0, 64, 499} {
		s.add(number)
	}
	other.add(5)
	joined := s.with(other)
	for number := range 500 {
		want := number == 0 || number == 64 || number == 499
		if s.has(number) != want || joined.has(number) != (want || number == 5) || other.has(number) != (number == 5) {
			t.Errorf("%d: %v, %v, %v", number, s.has(number), joined.has(number), other.has(number))
		}
	}
}
