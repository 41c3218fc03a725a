package logic

import (
	"slices"
	"strings"
	"testing"

	"avouch/api"
)

func mustParse(t *testing.T, text string) Condition {
	t.Helper()
	whole, right := Parse(text)
	if !right {
		t.Fatalf("Parse(%.60q): no condition", text)
	}
	return whole
}

func TestParse(t *testing.T) {
	a, b, d := Variable(0), Variable(1), Variable(3)
	for text, want := range map[string]Condition{
		"t":                       {{Kind: True}},
		"f":                       {{Kind: False}},
		"!t":                      {{Kind: Not}, {Kind: True}},
		"&tf":                     {{Kind: And}, {Kind: True}, {Kind: False}},
		"|tf":                     {{Kind: Or}, {Kind: True}, {Kind: False}},
		">tf":                     {{Kind: Implies}, {Kind: True}, {Kind: False}},
		"a-b<=0.":                 {{Atomic, Atom{a, b, 0}}},
		"0-d<=-999999.":           {{Atomic, Atom{Zero, d, -999999}}},
		"&!b-0<=999999.a-d<=-10.": {{Kind: And}, {Kind: Not}, {Atomic, Atom{b, Zero, 999999}}, {Atomic, Atom{a, d, -10}}},
	} {
		if got := mustParse(t, text); !slices.Equal(got, want) || got.Text() != text {
			t.Errorf("Parse(%q) = %v, written %q, want %v", text, got, got.Text(), want)
		}
	}
}

func TestParseRefuses(t *testing.T) {
	long := strings.Repeat("!", api.MaxCondition-1) + "t"
	mustParse(t, long)
	for _, text := range []string{"", "!" + long, "tt", "!", "&t", "&ttt", "a-b<=0", "a-b<=0.t", "a-b<=0..", "a-bb<=0.", "-b<=0.", "a-<=0.", "a-b<=0.a-b<=0.", "a-b<==0.", "a-b<=<=0."} {
		if whole, right := Parse(text); right || whole != nil {
			t.Errorf("Parse(%.60q) = %v, %v, want nothing", text, whole, right)
		}
	}
}

func TestAtMost(t *testing.T) {
	b, c := Variable(1), Variable(2)
	for text, symbol := range map[string]Symbol{
		"b-c<=-3.": AtMost(b, c, -3),
		"0-c<=3.":  AtMost(Zero, c, 3),
		"t":        AtMost(b, b, 0),
		"f":        AtMost(Zero, Zero, -1),
	} {
		if got := (Condition{symbol}).Text(); got != text {
			t.Errorf("%q, want %q", got, text)
		}
	}
}

func TestReplaceLeavesTheOldOne(t *testing.T) {
	const text = ">|a-b<=1.b-a<=2.&!a-0<=3.|c-a<=4.|t0-d<=5."
	whole := mustParse(t, text)
	if got, want := whole.Replace(Variable(0), Variable(1), 2).Text(), ">|ft&!b-0<=1.|c-b<=6.|t0-d<=5."; got != want {
		t.Errorf("Replace: %q, want %q", got, want)
	}
	if got, want := whole.Replace(Variable(0), Variable(0), -2).Text(), ">|a-b<=3.b-a<=0.&!a-0<=5.|c-a<=2.|t0-d<=5."; got != want {
		t.Errorf("Replace: %q, want %q", got, want)
	}
	if got := whole.Text(); got != text {
		t.Errorf("Replace changed what it was given: %q", got)
	}
}

// What Of makes must not share its room with its parts.
func TestOfSharesNothing(t *testing.T) {
	part := append(make(Condition, 0, 9), Symbol{Kind: True})
	one, other := Of(Not, part), Of(And, part, part)
	part[0].Kind = False
	_ = append(part, Symbol{Kind: False})
	if one.Text() != "!t" || other.Text() != "&tt" {
		t.Errorf("Of: %q and %q", one.Text(), other.Text())
	}
}

func TestHolds(t *testing.T) {
	state := api.State{api.MaxValue, -api.MaxValue, 7, 7}
	for text, want := range map[string]bool{
		"a-b<=999999.":    false,
		"b-a<=-999999.":   true,
		"c-d<=0.":         true,
		"c-d<=-1.":        false,
		">c-d<=0.d-c<=0.": true,
		">tf":             false,
		">ft":             true,
		"&>tt|ft":         true,
		"|&tf>tf":         false,
		"&t!|ff":          true,
	} {
		if got := mustParse(t, text).Holds(state); got != want {
			t.Errorf("%q holds: %v, want %v", text, got, want)
		}
	}
}

func TestAtoms(t *testing.T) {
	a, b := Variable(0), Variable(1)
	for text, want := range map[string][]Atom{
		"!t": {},
		"|&b-a<=0.!a-b<=0.>b-a<=0.|a-b<=1.a-b<=0.": {{b, a, 0}, {a, b, 0}, {a, b, 1}},
	} {
		if got := mustParse(t, text).Atoms(); !slices.Equal(got, want) {
			t.Errorf("the atoms of %q are %v, want %v", text, got, want)
		}
	}
}

// What an atom says, and what it says if it fails, are never both so.
func TestIf(t *testing.T) {
	atom := Atom{Variable(0), Variable(1), 3}
	if got := atom.If(Holding); got != atom {
		t.Errorf("if it holds: %v", got)
	}
	failing := atom.If(Failing)
	if want := (Atom{Variable(1), Variable(0), -4}); failing != want {
		t.Errorf("if it fails: %v, want %v", failing, want)
	}
	for value := range 10 {
		state := api.State{value}
		if atom.holds(state) == failing.holds(state) {
			t.Errorf("at %v both are %v", state, atom.holds(state))
		}
	}
}

func TestSettled(t *testing.T) {
	a, b := Variable(0), Variable(1)
	assumed := map[Atom]Truth{{a, b, 0}: Holding, {b, a, 0}: Failing}
	for text, want := range map[string]Truth{
		"t":                    Holding,
		"f":                    Failing,
		"a-b<=0.":              Holding,
		"b-a<=0.":              Failing,
		"a-b<=1.":              Open,
		"!a-b<=1.":             Open,
		"&a-b<=0.a-b<=1.":      Open,
		"&a-b<=1.b-a<=0.":      Failing,
		"|a-b<=1.a-b<=0.":      Holding,
		"|b-a<=0.a-b<=1.":      Open,
		">a-b<=1.a-b<=0.":      Holding,
		">b-a<=0.a-b<=1.":      Holding,
		">a-b<=0.a-b<=1.":      Open,
		">a-b<=1.b-a<=0.":      Open,
		">a-b<=0.b-a<=0.":      Failing,
		"|a-b<=1.!a-b<=1.":     Open,
		"&|a-b<=1.t!&a-b<=1.f": Holding,
	} {
		if got := mustParse(t, text).Settled(assumed); got != want {
			t.Errorf("%q is %d, want %d", text, got, want)
		}
	}
}
