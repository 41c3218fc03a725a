package avouch_test

import (
	"math"
	"runtime"
	"slices"
	"strings"
	"sync"
	"testing"
	"time"

	"avouch/api"
	"avouch/avouch"
)

// oneByOne is what P10 asks for: Prove on one condition behind another.
func oneByOne(t *testing.T, text string, budget int) api.Answer {
	t.Helper()
	whole := api.Answer{Verdict: api.Proved}
	for index, condition := range mustConditions(t, text) {
		answer := mustProve(t, condition, budget)
		if answer.Verdict != api.Proved {
			answer.Index = index
			return answer
		}
		whole.Proofs = append(whole.Proofs, answer.Proofs[0])
	}
	return whole
}

// mustVerify holds an answer against Prove, whatever the verdict.
func mustVerify(t *testing.T, text string, budget int) api.Answer {
	t.Helper()
	answer, errno, place := avouch.Verify(text, budget)
	if want := oneByOne(t, text, budget); errno != api.OK || place != 0 || !sameAnswer(answer, want) {
		t.Fatalf("P10: Verify(%q, %d) = %+v, %d, %d, want %+v", text, budget, answer, errno, place, want)
	}
	return answer
}

func wantVerify(t *testing.T, text string, budget, verdict, index int) {
	t.Helper()
	if answer := mustVerify(t, text, budget); answer.Verdict != verdict || answer.Index != index {
		t.Errorf("P10: Verify(%q, %d) = %+v, want the verdict %d of the condition %d", text, budget, answer, verdict, index)
	}
}

func wantNoVerify(t *testing.T, text string, budget int, want api.Errno, where int) {
	t.Helper()
	answer, errno, place := avouch.Verify(text, budget)
	if errno != want || place != where || !sameAnswer(answer, api.Answer{}) {
		t.Errorf("P10: Verify(%.60q, %d) = %+v, %d, %d, want %d, %d", text, budget, answer, errno, place, want, where)
	}
}

// leastBudget is the least with which Prove has an answer: it stays with more.
func leastBudget(t *testing.T, condition string) int {
	t.Helper()
	low, high := 0, api.MaxBudget
	for low < high {
		middle := (low + high) / 2
		if mustProve(t, condition, middle).Verdict == api.Unknown {
			low = middle + 1
		} else {
			high = middle
		}
	}
	return low
}

func TestVerifyTheCount(t *testing.T) {
	answer := mustVerify(t, counting, api.MaxBudget)
	if answer.Verdict != api.Proved || answer.Index != 0 || answer.Model != (api.State{}) || len(answer.Proofs) != 3 {
		t.Fatalf("P10: %+v", answer)
	}
	for i, condition := range mustConditions(t, counting) {
		wantConfirm(t, condition, answer.Proofs[i], true)
	}
}

func TestVerify(t *testing.T) {
	for _, c := range []struct {
		text           string
		verdict, index int
	}{
		{shortest, api.Proved, 0},
		{"from true do skip to false", api.Refuted, 0},
		{"from false do skip to false", api.Proved, 0},
		{"from a<b do c:=a;a:=b;b:=c to b<a", api.Proved, 0},
		{"from a<b do a:=b;b:=a to b<a", api.Refuted, 0},
		{"from true do if a<b then c:=b else c:=a end to c>=a and c>=b and(c=a or c=b)", api.Proved, 0},
		{"from true do if a<b then c:=a else c:=a end to c>=a and c>=b", api.Refuted, 0},
		{"from true do while true keep true do skip end to false", api.Proved, 0},
		{"from a<0 do while a<9 keep a<9 do a:=a+1 end to a=9", api.Refuted, 1},
		{"from a<0 do while a<9 keep a<=9 do a:=a+1 end to a=9", api.Proved, 0},
		{"from a<0 do while a<9 keep a<=9 do a:=a+1 end to a=8", api.Refuted, 2},
		{"from a<0 do while a<9 keep a>=0 do a:=a+1 end to a=8", api.Refuted, 0},
		{"from true do while a<9 keep true do b:=0;while b<a keep b<=a do b:=b+1 end;a:=a+1 end to a>8", api.Refuted, 1},
		{"from true do while a<9 keep true do b:=a;while b<a keep b<=a do b:=b+1 end;a:=a+1 end to a>8", api.Proved, 0},
		{"from true do while a<9 keep true do b:=a;while b<a keep b<=a do b:=b+2 end;a:=a+1 end to a>8", api.Refuted, 3},
		{"from true do while a<9 keep b<1 or true do while b<a keep b>0 or true do b:=b+1 end end to a>8 and b=a", api.Refuted, 2},
		{"from true do while a<9 keep a<9 or a>8 do while b<a keep true do b:=b+1 end;b:=a;while b<a keep b=a do skip end end;while a<d keep d>8 do skip end to d>8", api.Refuted, 2},
		{"from true do while a<9 keep true do while b<a keep true do b:=b+1 end;while c<a keep b>=a do c:=c+1 end end;skip to a>8", api.Proved, 0},
		{"from true do while a<9 keep true do while b<a keep true do b:=b+1 end;while c<a keep b>=a do c:=c+1 end end;while d<a keep d<9 do d:=a end to a>8", api.Refuted, 2},
		{"from true do skip;while a<b keep true do skip end;while a<c keep a>=b do a:=a+1 end;while a<d keep a>=c and a>=b do a:=a+1 end to a>=d and a>=c and a>=b", api.Proved, 0},
		{"from true do skip;while a<b keep true do skip end;while a<c keep a>=b do a:=a+1 end;while a<d keep a>=c and a>=b do a:=a-1 end to a>=d and a>=c and a>=b", api.Refuted, 5},
		{"from true do skip;while a<b keep true do skip end;while a<c keep a>=b do a:=a+1 end;while a<d keep a>=c and a>=b do a:=a+1 end to a>=d and a>c and a>=b", api.Refuted, 6},
	} {
		wantVerify(t, c.text, api.MaxBudget, c.verdict, c.index)
		wantVerify(t, c.text, 0, api.Unknown, 0)
	}
}

// late are programs whose second condition takes longer than the first one,
// and longer than the third, which is proved or refuted.
func late(to string) string {
	return "from true do while a<b keep true do if c<d then skip else if b<c then skip else skip end end end to " + to
}

// TestVerifyWithBudgetsBetween: with some budgets the first condition is
// proved, but another one is not.
func TestVerifyWithBudgetsBetween(t *testing.T) {
	for _, to := range []string{"a>=b", "false"} {
		var least []int
		for _, condition := range mustConditions(t, late(to)) {
			least = append(least, leastBudget(t, condition))
		}
		if least[0] >= least[2] || least[2] >= least[1] {
			t.Fatalf("the budgets %d are not as the test wants them", least)
		}
		for budget := range least[1] + 3 {
			switch {
			case budget < least[0]:
				wantVerify(t, late(to), budget, api.Unknown, 0)
			case budget < least[1]:
				wantVerify(t, late(to), budget, api.Unknown, 1)
			case to == "false":
				wantVerify(t, late(to), budget, api.Refuted, 2)
			default:
				wantVerify(t, late(to), budget, api.Proved, 0)
			}
		}
	}
}

// TestVerifyTellsTheFirst: what comes behind the first condition that is not
// proved changes nothing, whether it is proved, refuted, or takes longer.
func TestVerifyTellsTheFirst(t *testing.T) {
	const hard = "if c<d then skip else if b<c then skip else skip end end"
	for text, index := range map[string]int{
		"from true do while a<b keep a<9 do " + hard + ";a:=a+1 end to false":                               0,
		"from a<9 do while a<b keep a<9 do a:=a+1 end;" + hard + " to a<d or a>=d":                          1,
		"from a<9 do while a<b keep a<9 do skip end;while true keep a<8 do " + hard + ";a:=a+1 end to true": 2,
		"from a<9 do while a<b keep a<9 do skip end;while true keep a<9 do a:=a+1;" + hard + " end to b<a":  3,
	} {
		wantVerify(t, text, api.MaxBudget, api.Refuted, index)
		for budget := range 12 {
			mustVerify(t, text, budget)
		}
	}
}

func TestVerifyAtMaxText(t *testing.T) {
	for _, text := range []string{counting, "from true do skip to false", late("a>=b")} {
		filled := text + strings.Repeat(" ", api.MaxText-len(text))
		if answer := mustVerify(t, filled, api.MaxBudget); !sameAnswer(answer, mustVerify(t, text, api.MaxBudget)) {
			t.Errorf("P10: Verify(%q) = %+v with %d bytes", text, answer, len(filled))
		}
		wantNoVerify(t, filled+" ", api.MaxBudget, api.ErrLong, 0)
		wantNoVerify(t, filled+" ", -1, api.ErrLong, 0)
	}
	loops := "from true do skip" + strings.Repeat(";while a<b keep true do skip end", 8) + " to true"
	loops += strings.Repeat(" ", api.MaxText-len(loops))
	if answer := mustVerify(t, loops, api.MaxBudget); answer.Verdict != api.Proved || len(answer.Proofs) != 17 {
		t.Errorf("P10: %+v, want 17 proofs", answer)
	}
	wantNoVerify(t, strings.Repeat("from true do skip to true ", 1000000), 5, api.ErrLong, 0)
}

func TestVerifyAtMaxCondition(t *testing.T) {
	programs := aroundMaxCondition()
	programs["on the way"] = bigOnTheWay
	for _, program := range programs {
		for _, budget := range []int{0, 1, 30, api.MaxBudget} {
			mustVerify(t, program(""), budget)
			wantNoVerify(t, program("not "), budget, api.ErrBig, 0)
		}
		wantNoVerify(t, program(""), -1, api.ErrBudget, 0)
		wantNoVerify(t, program("not "), -1, api.ErrBig, 0)
	}
}

func TestVerifyErrors(t *testing.T) {
	for _, budget := range []int{-1, api.MaxBudget + 1, math.MinInt, math.MaxInt, 1 << 40} {
		for _, text := range []string{shortest, counting, "from true do skip to false"} {
			wantNoVerify(t, text, budget, api.ErrBudget, 0)
		}
	}
	for _, budget := range []int{math.MinInt, -1, 0, 1, api.MaxBudget, api.MaxBudget + 1, math.MaxInt} {
		for _, c := range []refusal{
			{strings.Repeat(" ", api.MaxText+1), api.ErrLong, 0},
			{"from true do skip", api.ErrText, 17},
			{"", api.ErrText, 0},
			{"from a < do skip to true", api.ErrText, 9},
			{counting + ";", api.ErrText, len(counting)},
			{"from true do \xff to true", api.ErrText, 13},
			{"from " + strings.Repeat("not ", 11), api.ErrDeep, 45},
			{"from true do " + strings.Repeat("if a<b then skip else skip end;", 8) + "skip to a<b", api.ErrBig, 0},
		} {
			wantNoVerify(t, c.text, budget, c.errno, c.place)
		}
	}
}

// TestVerifyOfPrograms asks programs of chance, with budgets of chance and
// with those at which a condition's answer comes up.
func TestVerifyOfPrograms(t *testing.T) {
	m := &maker{dice: 41}
	var counts [3][2]int
	count := func(answer api.Answer) { counts[answer.Verdict][min(answer.Index, 1)]++ }
	for range 3000 {
		text, want := m.program(true)
		if len(text) > api.MaxText || m.longest > api.MaxCondition {
			continue
		}
		count(mustVerify(t, text, api.MaxBudget))
		count(mustVerify(t, text, m.below(20)))
		if len(want) > 1 {
			least := leastBudget(t, want[m.below(len(want))])
			count(mustVerify(t, text, least))
			count(mustVerify(t, text, least-1))
		}
	}
	if slices.Min(counts[api.Refuted][:]) < 50 || slices.Min(counts[api.Unknown][:]) < 50 || counts[api.Proved][0] < 200 {
		t.Errorf("proved, refuted, unknown, each of the first condition and of others: %d: they look too little over", counts)
	}
}

func TestVerifiedProofsAreNewMemory(t *testing.T) {
	first := mustVerify(t, counting, api.MaxBudget)
	want := slices.Clone(first.Proofs)
	other := mustVerify(t, counting, api.MaxBudget)
	for whole, i := first.Proofs[:cap(first.Proofs)], 0; i < len(whole); i++ {
		whole[i] = "overwritten"
	}
	again := mustVerify(t, counting, api.MaxBudget)
	if !slices.Equal(other.Proofs, want) || !slices.Equal(again.Proofs, want) {
		t.Errorf("P2: %q and %q, want %q", other.Proofs, again.Proofs, want)
	}
}

// TestVerifyHangsOnNoSchedule asks the same again and again, several at the
// same time.
func TestVerifyHangsOnNoSchedule(t *testing.T) {
	texts := []string{counting, late("a>=b"), late("false"), "from true do skip" + strings.Repeat(";while a<b keep a<9 or d<a do a:=a+1 end", 6) + " to a>=b"}
	for _, text := range texts {
		for _, budget := range []int{0, 1, 3, api.MaxBudget} {
			want := mustVerify(t, text, budget)
			var askers sync.WaitGroup
			for range 8 {
				askers.Go(func() {
					for range 20 {
						if got, errno, place := avouch.Verify(text, budget); errno != api.OK || place != 0 || !sameAnswer(got, want) {
							t.Errorf("P2: Verify(%q, %d) = %+v, then %+v, %d, %d", text, budget, want, got, errno, place)
						}
					}
				})
			}
			askers.Wait()
		}
	}
}

// TestVerifyLeavesNoWorkers: one that has just told that it is at its end may
// still be counted for a moment.
func TestVerifyLeavesNoWorkers(t *testing.T) {
	before := runtime.NumGoroutine()
	for i := range 300 {
		avouch.Verify(counting, i)
		avouch.Verify("from true do skip to false", i)
	}
	for range 1000 {
		if runtime.NumGoroutine() <= before {
			return
		}
		time.Sleep(time.Millisecond)
	}
	t.Errorf("%d goroutines, then %d", before, runtime.NumGoroutine())
}
