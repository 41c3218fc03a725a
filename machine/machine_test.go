package machine

import (
	"math"
	"testing"

	"avouch/api"
	"avouch/syntax"
)

func TestMayBe(t *testing.T) {
	for index := range api.Vars {
		for value, want := range map[int]bool{0: true, api.MaxValue: true, -api.MaxValue: true, api.MaxValue + 1: false, -api.MaxValue - 1: false, math.MaxInt: false, math.MinInt: false} {
			var state api.State
			state[index] = value
			if MayBe(state) != want {
				t.Errorf("MayBe(%v) is not %v", state, want)
			}
		}
	}
}

func TestRelations(t *testing.T) {
	for relation, want := range map[syntax.Relation][3]bool{
		syntax.Less:    {true, false, false},
		syntax.AtMost:  {true, true, false},
		syntax.Equal:   {false, true, false},
		syntax.Greater: {false, false, true},
		syntax.AtLeast: {false, true, true},
	} {
		for i, left := range []int{-8, -7, -6} {
			if compare(relation, left, -7) != want[i] {
				t.Errorf("compare(%d, %d, -7) is not %v", relation, left, want[i])
			}
		}
	}
}

func TestConnectives(t *testing.T) {
	value := func(holds bool) syntax.Formula {
		if holds {
			return syntax.Formula{Kind: syntax.True}
		}
		return syntax.Formula{Kind: syntax.False}
	}
	for _, left := range []bool{false, true} {
		for _, right := range []bool{false, true} {
			parts := []syntax.Formula{value(left), value(right)}
			if Holds(syntax.Formula{Kind: syntax.And, Parts: parts}, api.State{}) != (left && right) {
				t.Errorf("%v and %v", left, right)
			}
			if Holds(syntax.Formula{Kind: syntax.Or, Parts: parts}, api.State{}) != (left || right) {
				t.Errorf("%v or %v", left, right)
			}
		}
		if Holds(syntax.Formula{Kind: syntax.Not, Parts: []syntax.Formula{value(left)}}, api.State{}) == left {
			t.Errorf("not %v", left)
		}
	}
}

func TestRunLeavesTheCommandsAsTheyAre(t *testing.T) {
	commands := []syntax.Command{{Kind: syntax.Assign, Target: 0, Term: syntax.Term{Variable: 0, Number: 1}}}
	want := api.Outcome{Kind: api.Done, State: api.State{1}, Steps: 1}
	for range 2 {
		if got := Run(commands, api.State{}, 5); got != want {
			t.Errorf("Run = %+v, want %+v", got, want)
		}
	}
}
