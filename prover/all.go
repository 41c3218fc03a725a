package prover

import (
	"sync"

	"avouch/api"
	"avouch/logic"
)

// workers is how many conditions are looked at at the same time, at most.
const workers = 4

// task is a condition on its way to a worker, with its place among all.
type task struct {
	place int
	whole logic.Condition
}

// All proves all conditions of a list, or answers for the first one that is
// not proved. The budget is each one's own.
func All(list []logic.Condition, budget int) api.Answer {
	proofs := make([]string, 0, len(list))
	for place, answer := range each(list, budget) {
		if answer.Verdict != api.Proved {
			answer.Index = place
			return answer
		}
		proofs = append(proofs, answer.Proofs...)
	}
	return api.Answer{Verdict: api.Proved, Proofs: proofs}
}

// each has every condition's answer at the condition's place: so it can't be
// seen which worker came to it, nor when.
func each(list []logic.Condition, budget int) []api.Answer {
	answers := make([]api.Answer, len(list))
	tasks := make(chan task)
	var team sync.WaitGroup
	for range min(workers, len(list)) {
		team.Add(1)
		go func() {
			defer team.Done()
			work(tasks, answers, budget)
		}()
	}
	for place, whole := range list {
		tasks <- task{place, whole}
	}
	close(tasks)
	team.Wait()
	return answers
}

// work has a prover of its own, as none may be at two conditions at once.
func work(tasks <-chan task, answers []api.Answer, budget int) {
	prover := New()
	for next := range tasks {
		answers[next.place] = prover.Prove(next.whole, budget)
	}
}
