package avouch_test

import (
	"slices"
	"strings"
	"testing"

	"avouch/api"
	"avouch/avouch"
)

// The document's table, written as rules; "#" is where what a rule begins with
// ends, so that the number of "#" still to come is the depth. What may be left
// out or come again is a rule of its own, to be chosen no sooner than it is met.
func rulesOf(symbol string) [][]string {
	table := map[string]string{
		"PROGRAM":       "from FORMULA do COMMANDS to FORMULA",
		"COMMANDS":      "COMMAND MORE-COMMANDS",
		"MORE-COMMANDS": " | ; COMMAND MORE-COMMANDS",
		"COMMAND":       "skip | VARIABLE := TERM | if FORMULA then COMMANDS else COMMANDS end # | while FORMULA keep FORMULA do COMMANDS end #",
		"FORMULA":       "PART MORE-PARTS",
		"MORE-PARTS":    " | or PART MORE-PARTS",
		"PART":          "FACTOR MORE-FACTORS",
		"MORE-FACTORS":  " | and FACTOR MORE-FACTORS",
		"FACTOR":        "not FACTOR # | ( FORMULA ) # | true | false | TERM RELATION TERM",
		"TERM":          "VARIABLE ADDEND | NUMBER | - NUMBER",
		"ADDEND":        " | + NUMBER | - NUMBER",
		"RELATION":      "< | <= | = | > | >=",
		"VARIABLE":      "a | b | c | d",
		"NUMBER":        "0 | 7 | 10 | 999",
	}
	var rules [][]string
	if text, ok := table[symbol]; ok {
		for rule := range strings.SplitSeq(text, " | ") {
			rules = append(rules, strings.Fields(rule))
		}
	}
	return rules
}

// A future is what must still come, as symbols with blanks between them. A
// list of futures holds all the ways in which the tokens read so far may go on.
type future = string

// ready replaces the futures by those that begin with a token, or are at their
// end.
func ready(futures []future) []future {
	seen := map[future]int{}
	var out []future
	for len(futures) > 0 {
		f := futures[len(futures)-1]
		futures = futures[:len(futures)-1]
		seen[f]++
		if seen[f] > 1 {
			continue
		}
		first, rest, _ := strings.Cut(f, " ")
		rules := rulesOf(first)
		switch {
		case first == "#":
			futures = append(futures, rest)
		case rules == nil:
			out = append(out, f)
		}
		for _, rule := range rules {
			futures = append(futures, strings.TrimSpace(strings.Join(rule, " ")+" "+rest))
		}
	}
	return out
}

// after is what may come behind a token, and whether the token is too deep.
func after(futures []future, word string) ([]future, bool) {
	var out []future
	deep := false
	for _, f := range futures {
		first, rest, _ := strings.Cut(f, " ")
		if first != word {
			continue
		}
		out = append(out, rest)
		around := strings.Count(rest, "#") - 1
		if slices.Contains([]string{"(", "not", "if", "while"}, word) && around >= api.MaxDepth {
			deep = true
		}
	}
	return ready(out), deep
}

// dice is a fixed row of numbers that looks like chance.
type dice uint64

func (d *dice) below(n int) int {
	*d = *d*6364136223846793005 + 1442695040888963407
	return int(uint64(*d) >> 33 % uint64(n))
}

func (d *dice) of(words []string) string { return words[d.below(len(words))] }

func pickWord(d *dice, futures []future) string {
	all := strings.Fields("from do to skip if then else end while keep or and not true false ( ) ; := < <= = > >= + - a b c d 0 7 10 999 e 00 01 1000 : FORMULA \x00")
	if d.below(40) == 0 {
		return d.of(all)
	}
	var fitting, nesting []string
	for _, f := range futures {
		first, _, _ := strings.Cut(f, " ")
		if first == "" {
			continue
		}
		fitting = append(fitting, first)
		if slices.Contains([]string{"(", "not", "if", "while"}, first) {
			nesting = append(nesting, first)
		}
	}
	if len(nesting) > 0 && d.below(2) == 0 {
		return d.of(nesting)
	}
	if len(fitting) == 0 {
		return d.of(all)
	}
	return d.of(fitting)
}

// TestCheckAgainstTheTable grows texts token by token, and holds each answer
// against what the rules themselves say of the tokens so far.
func TestCheckAgainstTheTable(t *testing.T) {
	d := dice(1)
	counts := map[api.Errno]int{}
	for range 1500 {
		futures := ready([]future{"PROGRAM"})
		text := ""
		for {
			want, place := api.OK, 0
			if !slices.Contains(futures, "") {
				want, place = api.ErrText, len(text)
			}
			if errno, at := avouch.Check(text); errno != want || at != place {
				t.Fatalf("P3: Check(%q) = %d, %d, want %d, %d", text, errno, at, want, place)
			}
			counts[want]++
			word := pickWord(&d, futures)
			begin := len(text)
			text += word + []string{" ", "\n", "  "}[d.below(3)]
			if len(text) > api.MaxText {
				break
			}
			next, deep := after(futures, word)
			if len(next) == 0 || deep {
				want = api.ErrText
				if len(next) > 0 {
					want = api.ErrDeep
				}
				if errno, at := avouch.Check(text); errno != want || at != begin {
					t.Fatalf("P3: Check(%q) = %d, %d, want %d, %d", text, errno, at, want, begin)
				}
				counts[want]++
				break
			}
			futures = next
		}
	}
	for _, errno := range []api.Errno{api.OK, api.ErrText, api.ErrDeep} {
		if counts[errno] < 20 {
			t.Errorf("only %d texts came to %d: they look too little over", counts[errno], errno)
		}
	}
}
