package avouch_test

import (
	"strings"
	"testing"

	"avouch/api"
	"avouch/avouch"
)

type answers struct {
	checked  api.Errno
	place    int
	outcome  api.Outcome
	ran      api.Errno
	holds    bool
	asked    api.Errno
	list     string
	made     api.Errno
	value    bool
	valued   api.Errno
	right    bool
	looked   api.Errno
	one      told
	proved   api.Errno
	whole    told
	verified api.Errno
	where    int
}

// told is an api.Answer in a form that can be held against another by ==.
type told struct {
	verdict int
	index   int
	model   api.State
	proofs  string
}

func tell(answer api.Answer) told {
	return told{answer.Verdict, answer.Index, answer.Model, strings.Join(answer.Proofs, "\n")}
}

func askAll(text string, state api.State, fuel int) answers {
	var all answers
	all.checked, all.place = avouch.Check(text)
	all.outcome, all.ran, _ = avouch.Run(text, state, fuel)
	all.holds, all.asked, _ = avouch.Holds(text, fuel%2 == 0, state)
	list, made, _ := avouch.Conditions(text)
	all.list, all.made = strings.Join(list, "\n"), made
	condition := text
	if len(list) > 0 {
		condition = list[len(list)-1]
	}
	all.value, all.valued = avouch.Value(condition, state)
	all.right, all.looked = avouch.Confirm(condition, text)
	answer, proved := avouch.Prove(condition, fuel)
	all.one, all.proved = tell(answer), proved
	answer, all.verified, all.where = avouch.Verify(text, fuel)
	all.whole = tell(answer)
	return all
}

// TestEveryCallEnds asks texts of chance bytes, and programs with chance bytes
// in them (P1).
func TestEveryCallEnds(t *testing.T) {
	d := dice(7)
	for range 20000 {
		bytes := []byte(counting)
		if d.below(2) == 0 {
			bytes = make([]byte, d.below(api.MaxText+10))
			for i := range bytes {
				bytes[i] = "abcd01:=<>+-();from \n\t\xff"[d.below(23)]
			}
		}
		for range d.below(4) {
			if len(bytes) > 0 {
				bytes[d.below(len(bytes))] = byte(d.below(256))
			}
		}
		text := string(bytes)
		state := api.State{d.below(9) - 4, d.below(9) - 4}
		first := askAll(text, state, d.below(50)-5)
		if first.place < 0 || first.place > len(text) {
			t.Fatalf("P3: Check(%q) tells the place %d", text, first.place)
		}
		if !inOrder(first) {
			t.Fatalf("P1: with %q: %+v", text, first)
		}
	}
}

// inOrder tells whether the refusals agree with each other, and have nothing
// beside them.
func inOrder(all answers) bool {
	if all.checked != api.OK {
		if all.ran != all.checked || all.asked != all.checked || all.made != all.checked || all.verified != all.checked || all.where != all.place {
			return false
		}
		if all.outcome != (api.Outcome{}) || all.holds || all.list != "" {
			return false
		}
	}
	if all.looked != api.OK && all.right || all.proved != api.OK && all.one != (told{}) {
		return false
	}
	return all.verified == api.OK || all.whole == told{}
}

func TestAnswersHangOnTheArgumentsAlone(t *testing.T) {
	for _, text := range []string{counting, shortest, "from", "from ((((((((((((", strings.Repeat("9", 1000)} {
		first := askAll(text, api.State{1, 5}, 7)
		askAll("from a < b do while true keep true do a := a + 1 end to false", api.State{1, 2, 3, 4}, api.MaxFuel)
		if again := askAll(text, api.State{1, 5}, 7); again != first {
			t.Errorf("P2: of %.40q first %+v, then %+v", text, first, again)
		}
	}
}
