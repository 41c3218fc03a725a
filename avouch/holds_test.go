package avouch_test

import (
	"math"
	"strings"
	"testing"

	"avouch/api"
	"avouch/avouch"
)

// wantBoth asks of the formula in both places; in the other place stands what
// holds just where it does not.
func wantBoth(t *testing.T, formula string, state api.State, want bool) {
	t.Helper()
	ahead := "from " + formula + " do a := 7 to not (" + formula + ")"
	behind := "from not (" + formula + ") do a := 7 to " + formula
	if got, errno, place := avouch.Holds(ahead, false, state); got != want || errno != api.OK || place != 0 {
		t.Errorf("P5: Holds(%q, false, %v) = %v, %d, %d, want %v", ahead, state, got, errno, place, want)
	}
	if got, errno, place := avouch.Holds(behind, true, state); got != want || errno != api.OK || place != 0 {
		t.Errorf("P5: Holds(%q, true, %v) = %v, %d, %d, want %v", behind, state, got, errno, place, want)
	}
}

func TestHoldsRelations(t *testing.T) {
	for a := -2; a <= 2; a++ {
		for b := -2; b <= 2; b++ {
			state := api.State{a, 0, 0, b}
			wantBoth(t, "a < d", state, a < b)
			wantBoth(t, "a <= d", state, a <= b)
			wantBoth(t, "a = d", state, a == b)
			wantBoth(t, "a > d", state, a > b)
			wantBoth(t, "a >= d", state, a >= b)
			wantBoth(t, "a + 1 <= d - 1", state, a+1 <= b-1)
			wantBoth(t, "-1 < a and not d = - 2", state, -1 < a && b != -2)
			wantBoth(t, "a < 0 or d < 0 and a = d", state, a < 0 || b < 0 && a == b)
			wantBoth(t, "(a < 0 or d < 0) and a = d", state, (a < 0 || b < 0) && a == b)
			wantBoth(t, "not a < 0 or d < 0", state, !(a < 0) || b < 0)
			wantBoth(t, "a = 1 or d = 1 or a = d", state, a == 1 || b == 1 || a == b)
			wantBoth(t, "a < 1 and d < 1 and a < d", state, a < 1 && b < 1 && a < b)
		}
	}
}

func TestHoldsEachVariable(t *testing.T) {
	state := api.State{-5, 10, 15, 20}
	wantBoth(t, "a = -5 and b = 10 and c = 15 and d = 20", state, true)
	wantBoth(t, "a = 10 or b = 15 or c = 20 or d = -5", state, false)
	wantBoth(t, "0 = -0 and 999 > -999", state, true)
	wantBoth(t, "true", state, true)
	wantBoth(t, "false", state, false)
}

func TestHoldsAtMaxValue(t *testing.T) {
	state := api.State{api.MaxValue, -api.MaxValue}
	wantBoth(t, "a + 999 > a and b - 999 < b", state, true)
	wantBoth(t, "b - 999 < a + 999", state, true)
	wantBoth(t, "a + 1 <= b", state, false)
}

func TestHoldsErrors(t *testing.T) {
	for _, behind := range []bool{false, true} {
		for _, c := range []struct {
			text  string
			state api.State
			errno api.Errno
			place int
		}{
			{strings.Repeat(" ", api.MaxText+1), api.State{math.MaxInt}, api.ErrLong, 0},
			{"from true do skip to", api.State{math.MaxInt}, api.ErrText, 20},
			{"from " + strings.Repeat("not ", 11), api.State{math.MinInt}, api.ErrDeep, 45},
			{shortest, api.State{api.MaxValue + 1}, api.ErrState, 0},
			{shortest, api.State{3: -api.MaxValue - 1}, api.ErrState, 0},
			{shortest, api.State{2: math.MinInt}, api.ErrState, 0},
		} {
			if got, errno, place := avouch.Holds(c.text, behind, c.state); got || errno != c.errno || place != c.place {
				t.Errorf("P5: Holds(%.40q, %v, %v) = %v, %d, %d, want %d, %d", c.text, behind, c.state, got, errno, place, c.errno, c.place)
			}
		}
	}
}
