package avouch_test

import (
	"math"
	"strings"
	"testing"

	"avouch/api"
	"avouch/avouch"
)

func mustRun(t *testing.T, commands string, state api.State, fuel int) api.Outcome {
	t.Helper()
	outcome, errno, place := avouch.Run("from false do "+commands+" to false", state, fuel)
	if errno != api.OK || place != 0 {
		t.Fatalf("P4: Run(%q, %v, %d): the error %d, %d", commands, state, fuel, errno, place)
	}
	return outcome
}

func TestRunCounts(t *testing.T) {
	for fuel, want := range map[int]api.Outcome{
		9: {Kind: api.Done, State: api.State{2, 2}, Steps: 5},
		5: {Kind: api.Done, State: api.State{2, 2}, Steps: 5},
		4: {Kind: api.Spent, State: api.State{2, 2}, Steps: 4},
		3: {Kind: api.Spent, State: api.State{1, 2}, Steps: 3},
		0: {Kind: api.Spent, State: api.State{0, 2}, Steps: 0},
	} {
		if got, errno, place := avouch.Run(counting, api.State{0, 2}, fuel); got != want || errno != api.OK || place != 0 {
			t.Errorf("P4: Run of the count with fuel %d = %+v, %d, %d, want %+v", fuel, got, errno, place, want)
		}
	}
}

func TestRunCommands(t *testing.T) {
	for _, c := range []struct {
		commands string
		from     api.State
		to       api.State
		steps    int
	}{
		{"skip", api.State{4, 3, 2, 1}, api.State{4, 3, 2, 1}, 1},
		{"skip; skip; skip", api.State{}, api.State{}, 3},
		{"d := c; c := b; b := a; a := -999", api.State{1, 2, 3, 4}, api.State{-999, 1, 2, 3}, 4},
		{"a := a + 999; a := a - 1", api.State{1}, api.State{999}, 2},
		{"if a = 1 then b := 1 else c := 1; d := 1 end", api.State{1}, api.State{1, 1, 0, 0}, 2},
		{"if a = 1 then b := 1 else c := 1; d := 1 end", api.State{2}, api.State{2, 0, 1, 1}, 3},
		{"while false keep true do a := 1 end; b := 1", api.State{}, api.State{0, 1}, 2},
		{"while a < 3 keep false do a := a + 1; if a = 2 then b := 1 else skip end end", api.State{}, api.State{3, 1}, 13},
		{"while a < 2 keep true do c := 0; while c < 2 keep true do c := c + 1; d := d + 1 end; a := a + 1 end", api.State{}, api.State{2, 0, 2, 4}, 21},
	} {
		want := api.Outcome{Kind: api.Done, State: c.to, Steps: c.steps}
		if got := mustRun(t, c.commands, c.from, api.MaxFuel); got != want {
			t.Errorf("P4: Run(%q, %v) = %+v, want %+v", c.commands, c.from, got, want)
		}
	}
}

// What is asked of every fuel below the steps of the whole run: it is spent,
// and it is a beginning of the run.
func TestRunIsSpentAtEveryFuelBelow(t *testing.T) {
	for commands, start := range map[string]api.State{
		"skip": {},
		"a := 1; if a = b then skip else b := 5 end; c := a":                                              {9, 1},
		"while a < 9 keep true do a := a + 1; if a < 4 then skip else b := b - 1; c := b end end; d := 7": {},
		"while true keep true do a := a + 999; b := a - 1 end":                                            {api.MaxValue - 5000},
	} {
		whole := mustRun(t, commands, start, api.MaxFuel)
		last := start
		for fuel := range whole.Steps + 3 {
			got := mustRun(t, commands, start, fuel)
			over := whole.Kind == api.Over && fuel == whole.Steps
			if fuel < whole.Steps || over {
				if got.Kind != api.Spent || got.Steps != fuel || differences(got.State, last) > 1 {
					t.Errorf("P4: Run(%q) with fuel %d of %d = %+v", commands, fuel, whole.Steps, got)
				}
				last = got.State
			} else if got != whole {
				t.Errorf("P4: Run(%q) with fuel %d = %+v, want %+v", commands, fuel, got, whole)
			}
		}
	}
}

func differences(one, other api.State) int {
	count := 0
	for i := range one {
		if one[i] != other[i] {
			count++
		}
	}
	return count
}

func TestRunMaxValue(t *testing.T) {
	const most = api.MaxValue
	for _, c := range []struct {
		commands string
		from     api.State
		fuel     int
		want     api.Outcome
	}{
		{"a := a + 1", api.State{most - 1}, 1, api.Outcome{Kind: api.Done, State: api.State{most}, Steps: 1}},
		{"a := a + 1", api.State{most}, 1, api.Outcome{Kind: api.Over, State: api.State{most}}},
		{"a := a + 1", api.State{most}, 0, api.Outcome{Kind: api.Spent, State: api.State{most}}},
		{"a := a + 0", api.State{most}, 1, api.Outcome{Kind: api.Done, State: api.State{most}, Steps: 1}},
		{"d := d - 1", api.State{3: 1 - most}, 1, api.Outcome{Kind: api.Done, State: api.State{3: -most}, Steps: 1}},
		{"d := d - 1", api.State{3: -most}, 1, api.Outcome{Kind: api.Over, State: api.State{3: -most}}},
		{"skip; b := c + 999; skip", api.State{2: most - 998}, 9, api.Outcome{Kind: api.Over, State: api.State{2: most - 998}, Steps: 1}},
		{"skip; b := c + 999; skip", api.State{2: most - 998}, 1, api.Outcome{Kind: api.Spent, State: api.State{2: most - 998}, Steps: 1}},
		{"skip; b := c + 999; skip", api.State{2: most - 999}, 9, api.Outcome{Kind: api.Done, State: api.State{1: most, 2: most - 999}, Steps: 3}},
		{"if a + 999 > a then b := 1 else skip end", api.State{most}, 9, api.Outcome{Kind: api.Done, State: api.State{most, 1}, Steps: 2}},
		{"while true keep true do a := a + 999 end", api.State{most - 2000}, 99, api.Outcome{Kind: api.Over, State: api.State{most - 2}, Steps: 5}},
	} {
		if got := mustRun(t, c.commands, c.from, c.fuel); got != c.want {
			t.Errorf("P4: Run(%q, %v, %d) = %+v, want %+v", c.commands, c.from, c.fuel, got, c.want)
		}
	}
}

func TestRunMaxFuel(t *testing.T) {
	want := api.Outcome{Kind: api.Spent, Steps: api.MaxFuel}
	if got := mustRun(t, "while true keep true do skip end", api.State{}, api.MaxFuel); got != want {
		t.Errorf("P4: %+v, want %+v", got, want)
	}
	done := api.Outcome{Kind: api.Done, State: api.State{4998, 4998}, Steps: api.MaxFuel}
	if got := mustRun(t, "skip; skip; while a < b keep true do a := a + 1 end; skip", api.State{0, 4998}, api.MaxFuel); got != done {
		t.Errorf("P4: %+v, want %+v", got, done)
	}
}

func TestRunErrors(t *testing.T) {
	bad := api.State{0, 0, 0, api.MaxValue + 1}
	for _, c := range []struct {
		text  string
		state api.State
		fuel  int
		errno api.Errno
		place int
	}{
		{strings.Repeat(" ", api.MaxText+1), bad, -1, api.ErrLong, 0},
		{"from true do skip", bad, -1, api.ErrText, 17},
		{"from " + strings.Repeat("(", 11), bad, -1, api.ErrDeep, 15},
		{shortest, bad, -1, api.ErrState, 0},
		{shortest, bad, 1, api.ErrState, 0},
		{shortest, api.State{-api.MaxValue - 1}, 1, api.ErrState, 0},
		{shortest, api.State{1: math.MinInt}, 1, api.ErrState, 0},
		{shortest, api.State{2: math.MaxInt}, 1, api.ErrState, 0},
		{shortest, api.State{api.MaxValue, -api.MaxValue}, -1, api.ErrFuel, 0},
		{shortest, api.State{}, api.MaxFuel + 1, api.ErrFuel, 0},
		{shortest, api.State{}, math.MinInt, api.ErrFuel, 0},
		{shortest, api.State{}, math.MaxInt, api.ErrFuel, 0},
	} {
		if got, errno, place := avouch.Run(c.text, c.state, c.fuel); got != (api.Outcome{}) || errno != c.errno || place != c.place {
			t.Errorf("P4: Run(%.40q, %v, %d) = %+v, %d, %d, want %d, %d", c.text, c.state, c.fuel, got, errno, place, c.errno, c.place)
		}
	}
}
