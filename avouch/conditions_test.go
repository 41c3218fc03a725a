package avouch_test

import (
	"slices"
	"strings"
	"testing"

	"avouch/api"
	"avouch/avouch"
)

func mustConditions(t *testing.T, text string) []string {
	t.Helper()
	list, errno, place := avouch.Conditions(text)
	if errno != api.OK || place != 0 {
		t.Fatalf("P6: Conditions(%q): the error %d, %d", text, errno, place)
	}
	return list
}

func TestConditionsOfTheCount(t *testing.T) {
	want := []string{">&&a-0<=0.0-a<=0.0-b<=0.a-b<=0.", ">&a-b<=0.a-b<=-1.a-b<=-1.", ">&a-b<=0.!a-b<=-1.&a-b<=0.b-a<=0."}
	if got := mustConditions(t, counting); !slices.Equal(got, want) {
		t.Errorf("P6: %q, want %q", got, want)
	}
}

func TestConditionsOfCommands(t *testing.T) {
	for text, want := range map[string][]string{
		shortest:                            {">tt"},
		"from a < b do skip; skip to c < d": {">a-b<=-1.c-d<=-1."},
		"from true do a := 5 to a <= b and b <= a":                                           {">t&0-b<=-5.b-0<=5."},
		"from true do a := -5 to a <= b and b <= a":                                          {">t&0-b<=5.b-0<=-5."},
		"from true do a := 5 to a = 5 and a < 5":                                             {">t&&ttf"},
		"from true do a := a + 2; a := a + 3 to a <= 0 and 0 <= a":                           {">t&a-0<=-5.0-a<=5."},
		"from true do b := a; a := c; c := b to a <= b and c <= a":                           {">t&c-a<=0.a-c<=0."},
		"from true do d := 1; c := d + 1; b := c + 1 to b = 3":                               {">t&tt"},
		"from true do if a < 1 then a := 1 else skip end; a := a + 1 to a > 1":               {">t|&a-0<=0.t&!a-0<=0.0-a<=-1."},
		"from true do if a<1 then if b<1 then skip else b:=0 end else skip end to b < 1":     {">t|&a-0<=0.|&b-0<=0.b-0<=0.&!b-0<=0.t&!a-0<=0.b-0<=0."},
		"from true do a := 9; while false keep b < a do b := b + 1 end; b := 7 to b < c":     {">tb-0<=8.", ">&b-a<=-1.fb-a<=-2.", ">&b-a<=-1.!f0-c<=-8."},
		"from true do if true then skip else while a<1 keep true do skip end end to 2 > d":   {">t|&td-0<=1.&!tt", ">&ta-0<=0.t", ">&t!a-0<=0.d-0<=1."},
		"from true do while true keep a<1 do while true keep b<1 do a:=a+1 end end to false": {">ta-0<=0.", ">&a-0<=0.tb-0<=0.", ">&a-0<=0.!tf", ">&b-0<=0.tb-0<=0.", ">&b-0<=0.!ta-0<=0."},
	} {
		if got := mustConditions(t, text); !slices.Equal(got, want) {
			t.Errorf("P6: Conditions(%q) = %q, want %q", text, got, want)
		}
	}
}

// TestConditionsAgainstASecondMaker holds the conditions of programs of chance
// against those that were made together with the programs.
func TestConditionsAgainstASecondMaker(t *testing.T) {
	m := &maker{dice: 3}
	big, several := 0, 0
	for range 6000 {
		text, want := m.program(true)
		if len(text) > api.MaxText {
			continue
		}
		got, errno, place := avouch.Conditions(text)
		if m.longest > api.MaxCondition {
			big++
			if len(got) != 0 || errno != api.ErrBig || place != 0 {
				t.Fatalf("P6: Conditions(%q) = %d conditions, %d, %d, want ErrBig: there is one of %d bytes", text, len(got), errno, place, m.longest)
			}
			continue
		}
		if len(want) > 1 {
			several++
		}
		if !slices.Equal(got, want) || errno != api.OK || place != 0 {
			t.Fatalf("P6: Conditions(%q) = %q, %d, %d, want %q", text, got, errno, place, want)
		}
		for _, condition := range got {
			if _, errno := avouch.Value(condition, api.State{}); errno != api.OK {
				t.Fatalf("P6: Conditions(%q): %q is no condition", text, condition)
			}
		}
	}
	if big < 50 || several < 500 {
		t.Errorf("only %d programs with conditions that are too long, and %d with loops: they look too little over", big, several)
	}
}

// choices is a row of six choices on a = b: with n bytes behind it, 64n + 2142
// must hold ahead.
func choices() string { return strings.Repeat(";if a=b then skip else skip end", 6)[1:] }

const behind28 = "a=b or not a<-999"

// aroundMaxCondition are pairs of programs that differ in one byte of one
// condition: with nothing it has MaxCondition bytes, with "not " one more.
func aroundMaxCondition() map[string]func(not string) string {
	return map[string]func(not string) string{
		"the first condition": func(not string) string {
			return "from a=b or a=b or a=b or not not " + not + "a=b do skip;" + choices() + " to " + behind28
		},
		"what goes around a loop": func(not string) string {
			return "from true do while " + not + "a=b or a=999 keep " + behind28 + " do " + choices() + " end to true"
		},
		"what comes out of a loop": func(not string) string {
			return "from true do while a=b keep not " + not + "a=b or a=b or a=b do skip end;" + choices() + " to " + behind28
		},
	}
}

func TestConditionsAtMaxCondition(t *testing.T) {
	for name, program := range aroundMaxCondition() {
		list, errno, place := avouch.Conditions(program(""))
		longest := 0
		for _, condition := range list {
			longest = max(longest, len(condition))
		}
		if errno != api.OK || place != 0 || longest != api.MaxCondition {
			t.Errorf("P6: %s, at the bound: %d, %d, the longest has %d bytes", name, errno, place, longest)
		}
		list, errno, place = avouch.Conditions(program("not "))
		if errno != api.ErrBig || place != 0 || len(list) != 0 {
			t.Errorf("P6: %s, one past the bound: %d conditions, %d, %d", name, len(list), errno, place)
		}
	}
}

// bigOnTheWay: what must hold ahead of a choice is at the bound, or with
// "not " one past it, but an assignment ahead of it makes it short again.
func bigOnTheWay(not string) string {
	return "from true do a:=b;if a=b then while a=b keep not " + not + "a=b or a=b do skip end else skip end;" + choices() + " to " + behind28
}

func TestConditionsTooLongOnTheWay(t *testing.T) {
	for _, condition := range mustConditions(t, bigOnTheWay("")) {
		if len(condition) == api.MaxCondition {
			t.Errorf("P6: a condition of %d bytes: nothing is on the way alone", len(condition))
		}
	}
	list, errno, place := avouch.Conditions(bigOnTheWay("not "))
	if len(list) != 0 || errno != api.ErrBig || place != 0 {
		t.Errorf("P6: one past the bound on the way: %d conditions, %d, %d", len(list), errno, place)
	}
}

func TestConditionsErrors(t *testing.T) {
	for _, c := range []refusal{
		{strings.Repeat(" ", api.MaxText+1), api.ErrLong, 0},
		{"from true do skip", api.ErrText, 17},
		{"", api.ErrText, 0},
		{"from true do " + strings.Repeat("if a<b then skip else skip end;", 9) + "e", api.ErrText, 292},
		{"from " + strings.Repeat("not ", 11), api.ErrDeep, 45},
		{"from true do " + strings.Repeat("if a<b then skip else skip end;", 8) + "skip to a<b", api.ErrBig, 0},
	} {
		if list, errno, place := avouch.Conditions(c.text); len(list) != 0 || errno != c.errno || place != c.place {
			t.Errorf("P6: Conditions(%.40q) = %q, %d, %d, want %d, %d", c.text, list, errno, place, c.errno, c.place)
		}
	}
}

func TestConditionsAreNewMemory(t *testing.T) {
	first := mustConditions(t, counting)
	want := slices.Clone(first)
	other := mustConditions(t, counting)
	for whole, i := first[:cap(first)], 0; i < len(whole); i++ {
		whole[i] = "overwritten"
	}
	if again := mustConditions(t, counting); !slices.Equal(other, want) || !slices.Equal(again, want) {
		t.Errorf("P2: %q and %q, want %q", other, again, want)
	}
}

// TestWeakest: of a program without a loop the condition holds just where a
// run does what the program says (P11).
func TestWeakest(t *testing.T) {
	m := &maker{dice: 5}
	asked, held := 0, 0
	for range 1500 {
		text, _ := m.program(false)
		if len(text) > api.MaxText || m.longest > api.MaxCondition {
			continue
		}
		condition := mustConditions(t, text)[0]
		for range 30 {
			state := api.State{m.below(9) - 4, m.below(9) - 4, m.number() - m.number(), m.number() - m.number()}
			if m.below(10) == 0 {
				state[m.below(4)] = api.MaxValue - m.below(3)
			}
			outcome, errno, _ := avouch.Run(text, state, api.MaxFuel)
			if errno != api.OK || outcome.Kind == api.Over {
				continue
			}
			ahead, _, _ := avouch.Holds(text, false, state)
			behind, _, _ := avouch.Holds(text, true, outcome.State)
			want := !ahead || behind
			if got, errno := avouch.Value(condition, state); got != want || errno != api.OK {
				t.Fatalf("P11: of %q at %v the condition is %v, %d; the run goes to %v: %v, %v", text, state, got, errno, outcome.State, ahead, behind)
			}
			asked++
			if ahead && want {
				held++
			}
		}
	}
	if asked < 10000 || held < 2000 || asked-held < 2000 {
		t.Errorf("%d states asked, at %d both held: they look too little over", asked, held)
	}
}
