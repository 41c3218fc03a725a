package prover

import (
	"slices"
	"strings"
	"testing"

	"avouch/api"
	"avouch/kernel"
	"avouch/logic"
)

func mustParse(t *testing.T, text string) logic.Condition {
	t.Helper()
	whole, right := logic.Parse(text)
	if !right {
		t.Fatalf("%q is no condition", text)
	}
	return whole
}

func same(one, other api.Answer) bool {
	return one.Verdict == other.Verdict && one.Model == other.Model && slices.Equal(one.Proofs, other.Proofs)
}

// TestOneProverForSeveral: no condition leaves anything to the next one, also
// if its search found a state, or ran out.
func TestOneProverForSeveral(t *testing.T) {
	const proved, refuted = ">&a-b<=0.b-c<=0.a-c<=0.", ">&a-b<=0.b-c<=1.a-c<=0."
	p := New()
	for range 3 {
		for _, condition := range []string{proved, refuted, proved, "f", "t", "a-b<=0.", "|a-b<=0.!a-b<=0.", refuted, proved} {
			for _, budget := range []int{api.MaxBudget, 0, 2, 3, api.MaxBudget} {
				whole := mustParse(t, condition)
				got, want := p.Prove(whole, budget), New().Prove(whole, budget)
				if !same(got, want) {
					t.Errorf("%q with %d: %+v, a new prover answers %+v", condition, budget, got, want)
				}
			}
		}
	}
}

func TestNothingIsAssumedBehindAProof(t *testing.T) {
	p := New()
	answer := p.Prove(mustParse(t, "&|a-b<=0.!a-b<=0.|c-d<=0.!c-d<=0."), api.MaxBudget)
	if answer.Verdict != api.Proved || len(p.assumed) != 0 {
		t.Errorf("%+v, still assumed: %v", answer, p.assumed)
	}
}

// TestProofsLeaveOutWhatTheyDoNotNeed: of the first ones the ten first atoms
// have nothing to do with what settles the condition.
func TestProofsLeaveOutWhatTheyDoNotNeed(t *testing.T) {
	beside := strings.Repeat("|", 10) + "a-0<=0.a-0<=1.a-0<=2.a-0<=3.a-0<=4.b-0<=0.b-0<=1.b-0<=2.b-0<=3.b-0<=4.t"
	for text, want := range map[string]string{
		">" + beside + "|c-d<=0.d-c<=0.":                       "?10:.?11:.!11,10;",
		">" + strings.Replace(beside, "t", "c-d<=9.", 1) + "t": ".",
		">a-b<=0.|a-b<=5.a-b<=0.":                              "?0:..",
		"|>a-b<=0.b-a<=0.|c-d<=0.d-c<=-1.":                     "?2:.?3:.!3,2;",
	} {
		answer := New().Prove(mustParse(t, text), api.MaxBudget)
		if answer.Verdict != api.Proved || len(answer.Proofs[0]) > len(want) {
			t.Errorf("%q: %+v, want a proof no longer than %q", text, answer, want)
		}
	}
}

// TestProofsThatAreTooLong: a proof above MaxProof is none, with any budget.
func TestProofsThatAreTooLong(t *testing.T) {
	odds := func(u, v string) string {
		var parts []string
		for n := -59; n <= 59; n += 2 {
			holding := logic.Condition{logic.AtMost(operand(u), operand(v), n)}
			parts = append(parts, logic.Of(logic.And, holding, logic.Condition{logic.AtMost(operand(v), operand(u), -n)}).Text())
		}
		return strings.Repeat("|", len(parts)-1) + strings.Join(parts, "")
	}
	whole := mustParse(t, "!&&"+odds("a", "0")+odds("b", "a")+odds("0", "b"))
	p := New()
	if answer := p.Prove(whole, api.MaxBudget); !same(answer, api.Answer{Verdict: api.Unknown}) {
		t.Errorf("%d, %d proofs", answer.Verdict, len(answer.Proofs))
	}
	if p.steps == 0 {
		t.Error("the search ran out: this is no proof that is too long")
	}
}

func operand(name string) logic.Operand {
	return logic.Operand(strings.Index("0abcd", name))
}

func TestSplitText(t *testing.T) {
	long := strings.Repeat(".", api.MaxProof-4)
	if got := splitText(7, long, "."); len(got) != api.MaxProof || !strings.HasPrefix(got, "?7:.") {
		t.Errorf("%d bytes, at the bound: %.9q", len(got), got)
	}
	for _, tooLong := range []string{splitText(7, long+".", "."), splitText(7, ".", long+".")} {
		for range 5 {
			if len(tooLong) != api.MaxProof+1 {
				t.Errorf("%d bytes, want one past the bound", len(tooLong))
			}
			tooLong = splitText(3, tooLong, ".")
			tooLong = splitText(3, ".", tooLong)
		}
	}
}

// TestFewAtomsStayWithinTheBudget: whatever the way, with FewAtoms atoms there
// are no more steps than MaxBudget, and no more bytes than MaxProof.
func TestFewAtomsStayWithinTheBudget(t *testing.T) {
	steps := 1<<(api.FewAtoms+1) - 1
	ends := 1 << api.FewAtoms
	if steps > api.MaxBudget || ends*len("?10:")+ends*len("!10,11,9,8,7;") > api.MaxProof {
		t.Errorf("%d steps, %d ends", steps, ends)
	}
}

func TestKernelLooksOver(t *testing.T) {
	whole := mustParse(t, "|a-b<=0.b-a<=0.")
	answer := New().Prove(whole, api.MaxBudget)
	if answer.Verdict != api.Proved || !kernel.New().Confirms(whole, answer.Proofs[0]) {
		t.Errorf("%+v", answer)
	}
}
