package prover

import (
	"slices"
	"testing"

	"avouch/api"
	"avouch/logic"
)

func known(t *testing.T, texts ...string) bounds {
	t.Helper()
	b := noBounds()
	for number, text := range texts {
		b = b.with(mustParse(t, text)[0].Atom, number)
	}
	return b
}

func TestBoundsFollow(t *testing.T) {
	b := known(t, "a-b<=3.", "c-d<=0.", "b-c<=-5.", "a-c<=7.", "d-0<=1.")
	for text, want := range map[string]logic.Truth{
		"a-c<=-2.": logic.Holding,
		"a-c<=-3.": logic.Open,
		"c-a<=1.":  logic.Failing,
		"c-a<=2.":  logic.Open,
		"a-0<=-1.": logic.Holding,
		"a-0<=-2.": logic.Open,
		"0-a<=0.":  logic.Failing,
		"0-a<=1.":  logic.Open,
		"b-a<=0.":  logic.Open,
		"d-b<=4.":  logic.Failing,
		"d-b<=5.":  logic.Open,
	} {
		if got := b.truth(mustParse(t, text)[0].Atom); got != want {
			t.Errorf("%q is %d, want %d", text, got, want)
		}
	}
	a0 := b[logic.Variable(0)][logic.Zero]
	if !slices.Equal(a0.by, []int{0, 2, 1, 4}) {
		t.Errorf("a less 0 is bound by %v", a0.by)
	}
}

// TestBoundsWithCyclesOf0: bounds go through no operand twice.
func TestBoundsWithCyclesOf0(t *testing.T) {
	b := known(t, "a-b<=0.", "b-a<=0.", "b-c<=0.", "c-b<=0.", "c-d<=0.", "d-c<=0.", "d-0<=0.", "0-d<=0.", "a-d<=0.", "0-a<=0.")
	for left := range b {
		for right := range b {
			bound := b[left][right]
			if !bound.known || bound.most != 0 || len(bound.by) > api.Vars {
				t.Errorf("%d less %d: %+v", left, right, bound)
			}
		}
	}
}

func TestState(t *testing.T) {
	for _, texts := range [][]string{
		{},
		{"a-b<=-999999.", "b-c<=-999999.", "c-d<=-999999.", "d-0<=-999999."},
		{"0-a<=-999999.", "a-b<=-999999.", "b-c<=-999999.", "c-d<=-999999."},
		{"a-b<=3.", "c-d<=0.", "b-c<=-5.", "a-c<=7.", "d-0<=1.", "0-d<=-1."},
		{"a-b<=0.", "b-a<=0.", "0-a<=-7.", "a-0<=7.", "c-d<=5."},
	} {
		b := known(t, texts...)
		state := b.state()
		for _, text := range texts {
			if !mustParse(t, text).Holds(state) {
				t.Errorf("%q: at %v %q fails", texts, state, text)
			}
		}
		for _, value := range state {
			if value > api.MaxValue || value < -api.MaxValue {
				t.Errorf("%q: %v may not be", texts, state)
			}
		}
	}
}
