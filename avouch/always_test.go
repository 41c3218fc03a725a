package avouch_test

import (
	"strings"
	"testing"

	"avouch/api"
	"avouch/avouch"
)

type answers struct {
	checked api.Errno
	place   int
	outcome api.Outcome
	ran     api.Errno
	holds   bool
	asked   api.Errno
	list    string
	made    api.Errno
	value   bool
	valued  api.Errno
	right   bool
	looked  api.Errno
	verdict int
	model   api.State
	proofs  string
	proved  api.Errno
}

func askAll(text string, state api.State, fuel int) answers {
	var all answers
	all.checked, all.place = avouch.Check(text)
	all.outcome, all.ran, _ = avouch.Run(text, state, fuel)
	all.holds, all.asked, _ = avouch.Holds(text, fuel%2 == 0, state)
	list, made, _ := avouch.Conditions(text)
	all.list, all.made = strings.Join(list, "\n"), made
	condition := text
	if len(list) > 0 {
		condition = list[len(list)-1]
	}
	all.value, all.valued = avouch.Value(condition, state)
	all.right, all.looked = avouch.Confirm(condition, text)
	answer, proved := avouch.Prove(condition, fuel)
	all.verdict, all.model, all.proofs, all.proved = answer.Verdict, answer.Model, strings.Join(answer.Proofs, "\n"), proved
	return all
}

// TestEveryCallEnds asks texts of chance bytes, and programs with chance bytes
// in them (P1).
func TestEveryCallEnds(t *testing.T) {
	d := dice(7)
	for range 20000 {
		bytes := []byte(counting)
		if d.below(2) == 0 {
			bytes = make([]byte, d.below(api.MaxText+10))
			for i := range bytes {
				bytes[i] = "abcd01:=<>+-();from \n\t\xff"[d.below(23)]
			}
		}
		for range d.below(4) {
			if len(bytes) > 0 {
				bytes[d.below(len(bytes))] = byte(d.below(256))
			}
		}
		text := string(bytes)
		state := api.State{d.below(9) - 4, d.below(9) - 4}
		first := askAll(text, state, d.below(50)-5)
		if first.place < 0 || first.place > len(text) {
			t.Fatalf("P3: Check(%q) tells the place %d", text, first.place)
		}
		if first.checked != api.OK && (first.ran != first.checked || first.asked != first.checked || first.made != first.checked || first.outcome != (api.Outcome{}) || first.holds || first.list != "") {
			t.Fatalf("P1: with %q: %+v", text, first)
		}
		if first.looked != api.OK && first.right || first.proved != api.OK && (first.verdict != 0 || first.model != (api.State{}) || first.proofs != "") {
			t.Fatalf("P1: with %q: %+v", text, first)
		}
	}
}

func TestAnswersHangOnTheArgumentsAlone(t *testing.T) {
	for _, text := range []string{counting, shortest, "from", "from ((((((((((((", strings.Repeat("9", 1000)} {
		first := askAll(text, api.State{1, 5}, 7)
		askAll("from a < b do while true keep true do a := a + 1 end to false", api.State{1, 2, 3, 4}, api.MaxFuel)
		if again := askAll(text, api.State{1, 5}, 7); again != first {
			t.Errorf("P2: of %.40q first %+v, then %+v", text, first, again)
		}
	}
}
