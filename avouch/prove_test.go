package avouch_test

import (
	"math"
	"slices"
	"strings"
	"testing"

	"avouch/api"
	"avouch/avouch"
)

// mustProve looks over all that P9 says of an answer, whatever the verdict.
func mustProve(t *testing.T, condition string, budget int) api.Answer {
	t.Helper()
	answer, errno := avouch.Prove(condition, budget)
	if errno != api.OK || answer.Index != 0 {
		t.Fatalf("P9: Prove(%.60q, %d) = %+v, %d", condition, budget, answer, errno)
	}
	if answer.Verdict != api.Proved && len(answer.Proofs) != 0 || answer.Verdict != api.Refuted && answer.Model != (api.State{}) {
		t.Fatalf("P9: Prove(%.60q, %d) = %+v: more than the verdict has", condition, budget, answer)
	}
	switch answer.Verdict {
	case api.Proved:
		if len(answer.Proofs) != 1 {
			t.Fatalf("P9: Prove(%.60q, %d) = %+v: not one proof", condition, budget, answer)
		}
		wantConfirm(t, condition, answer.Proofs[0], true)
	case api.Refuted:
		wantValue(t, condition, answer.Model, false)
	case api.Unknown:
	default:
		t.Fatalf("P9: Prove(%.60q, %d) = %+v: no verdict", condition, budget, answer)
	}
	return answer
}

func sameAnswer(one, other api.Answer) bool {
	return one.Verdict == other.Verdict && one.Index == other.Index && one.Model == other.Model && slices.Equal(one.Proofs, other.Proofs)
}

func wantVerdict(t *testing.T, condition string, want int) {
	t.Helper()
	if answer := mustProve(t, condition, api.MaxBudget); answer.Verdict != want {
		t.Errorf("P9: Prove(%.200q) = %+v, want the verdict %d", condition, answer, want)
	}
}

// wantSameWithMore asks with one budget behind another: an answer, once found,
// stays.
func wantSameWithMore(t *testing.T, condition string) {
	t.Helper()
	found := mustProve(t, condition, 0)
	if found.Verdict != api.Unknown {
		t.Errorf("P9: Prove(%.60q, 0) = %+v, want Unknown", condition, found)
	}
	for budget := 1; budget <= api.MaxBudget; budget = max(budget+1, budget*5/4) {
		answer := mustProve(t, condition, budget)
		if found.Verdict != api.Unknown && !sameAnswer(found, answer) {
			t.Fatalf("P9: Prove(%.60q, %d) = %+v, with less %+v", condition, budget, answer, found)
		}
		found = answer
	}
	if answer := mustProve(t, condition, api.MaxBudget); found.Verdict != api.Unknown && !sameAnswer(found, answer) {
		t.Errorf("P9: Prove(%.60q, %d) = %+v, with less %+v", condition, api.MaxBudget, answer, found)
	}
}

func TestProve(t *testing.T) {
	for condition, want := range map[string]int{
		"t":                                 api.Proved,
		"!t":                                api.Refuted,
		"f":                                 api.Refuted,
		"a-b<=0.":                           api.Refuted,
		"!a-b<=0.":                          api.Refuted,
		firstOfTheCount:                     api.Proved,
		">&a-b<=0.a-b<=-1.a-b<=-1.":         api.Proved,
		">&a-b<=0.!a-b<=-1.&a-b<=0.b-a<=0.": api.Proved,
		">&&a-0<=0.0-a<=0.0-b<=-1.a-b<=-2.": api.Refuted,
		"|a-b<=0.!a-b<=0.":                  api.Proved,
		"|a-b<=0.b-a<=-1.":                  api.Proved,
		"|a-b<=0.b-a<=-2.":                  api.Refuted,
		"&a-b<=0.b-a<=-1.":                  api.Refuted,
		"!&a-b<=0.b-a<=-1.":                 api.Proved,
		"!&a-b<=0.b-a<=0.":                  api.Refuted,
		">&a-b<=4.b-0<=-5.a-0<=-1.":         api.Proved,
		">&a-b<=4.b-0<=-5.a-0<=-2.":         api.Refuted,
		"!&&&&a-b<=2.b-c<=2.c-d<=2.d-0<=2.0-a<=-9.":       api.Proved,
		"!&&&&a-b<=2.b-c<=2.c-d<=2.d-0<=2.0-a<=-8.":       api.Refuted,
		">|a-b<=0.a-c<=0.|a-b<=0.a-c<=0.":                 api.Proved,
		"|||a-b<=-1.b-c<=-1.c-d<=-1.&a-d<=0.d-a<=0.":      api.Refuted,
		">&&&a-b<=0.b-c<=0.c-d<=0.d-a<=0.&a-c<=0.c-a<=0.": api.Proved,
		"&t|a-b<=0.&tb-a<=0.":                             api.Proved,
		">fa-b<=0.":                                       api.Proved,
		">a-b<=0.f":                                       api.Refuted,
	} {
		wantVerdict(t, condition, want)
		wantSameWithMore(t, condition)
	}
}

func TestProveTheCount(t *testing.T) {
	for _, condition := range mustConditions(t, counting) {
		wantVerdict(t, condition, api.Proved)
	}
	for _, condition := range mustConditions(t, "from true do if a<b then c:=b else c:=a end;if c<d then c:=d else skip end to c>=a and c>=b and c>=d and (c=a or c=b or c=d)") {
		wantVerdict(t, condition, api.Proved)
	}
}

func TestProveAtMaxBound(t *testing.T) {
	for condition, want := range map[string]int{
		"a-b<=999999.":                                                          api.Refuted,
		"!a-b<=-999999.":                                                        api.Refuted,
		">a-b<=999998.a-b<=999999.":                                             api.Proved,
		">a-b<=999999.a-b<=999998.":                                             api.Refuted,
		"|a-b<=999999.b-a<=-999999.":                                            api.Proved,
		"|a-b<=-999999.b-a<=999998.":                                            api.Proved,
		"|a-b<=-999999.b-a<=999997.":                                            api.Refuted,
		"!&&&a-b<=-999999.b-c<=-999999.c-d<=-999999.d-0<=-999999.":              api.Refuted,
		"|||a-b<=999999.b-c<=999999.c-d<=999999.d-0<=999999.":                   api.Refuted,
		"|||b-a<=999999.c-b<=999999.d-c<=999999.0-d<=999999.":                   api.Refuted,
		"!&&&&a-b<=999999.b-c<=999999.c-d<=999999.d-0<=-999999.0-a<=-999999.":   api.Refuted,
		"!&&&&a-b<=999999.b-c<=999999.c-d<=-999999.d-0<=-999999.0-a<=-1.":       api.Proved,
		">&&&a-b<=-999999.b-c<=-999999.c-d<=-999999.d-0<=-999999.a-0<=-999999.": api.Proved,
	} {
		wantVerdict(t, condition, want)
	}
	for _, text := range []string{"a-b<=1000000.", "|a-b<=0.b-a<=-1000000."} {
		wantNoProve(t, text, api.MaxBudget, api.ErrCondition)
	}
}

func TestProveAtMaxCondition(t *testing.T) {
	const most = api.MaxCondition
	wantVerdict(t, strings.Repeat("!", most-1)+"f", api.Proved)
	wantVerdict(t, strings.Repeat("!", most-1)+"t", api.Refuted)
	wantVerdict(t, strings.Repeat("!", most-7)+"a-b<=0.", api.Refuted)
	wantVerdict(t, strings.Repeat("&", most/2-1)+strings.Repeat("t", most/2), api.Proved)
	wantVerdict(t, strings.Repeat("|f", most/2-1)+"!t", api.Refuted)
	sure := "|a-b<=0.!a-b<=0."
	filled := strings.Repeat("&", most/17-1) + strings.Repeat(sure, most/17)
	wantVerdict(t, strings.Repeat("!!", (most-len(filled))/2)+filled, api.Proved)
	wantNoProve(t, strings.Repeat("!", most)+"f", 5, api.ErrCondition)
	wantNoProve(t, strings.Repeat("!", 5000000)+"t", 5, api.ErrCondition)
}

func wantNoProve(t *testing.T, text string, budget int, want api.Errno) {
	t.Helper()
	answer, errno := avouch.Prove(text, budget)
	if errno != want || !sameAnswer(answer, api.Answer{}) {
		t.Errorf("P9: Prove(%.60q, %d) = %+v, %d, want %d", text, budget, answer, errno, want)
	}
}

func TestProveErrors(t *testing.T) {
	for _, budget := range []int{-1, api.MaxBudget + 1, math.MinInt, math.MaxInt, 1 << 40} {
		for _, condition := range []string{"t", "f", firstOfTheCount} {
			wantNoProve(t, condition, budget, api.ErrBudget)
		}
		wantNoProve(t, "tt", budget, api.ErrCondition)
	}
	for _, text := range []string{"", "tt", "&t", "a-a<=0.", "a-b<=00.", "a-b<=0", "a-b <=0.", "\xff"} {
		for _, budget := range []int{0, 1, api.MaxBudget} {
			wantNoProve(t, text, budget, api.ErrCondition)
		}
	}
	for _, condition := range []string{"t", "f", "a-b<=0."} {
		if answer := mustProve(t, condition, 0); answer.Verdict != api.Unknown {
			t.Errorf("P9: Prove(%q, 0) = %+v, want Unknown", condition, answer)
		}
	}
}

// chanceAtoms are different atoms, as many as are asked for.
func chanceAtoms(d *dice, count, bound int) []string {
	var atoms []string
	for len(atoms) < count {
		u := d.below(5)
		v := (u + 1 + d.below(4)) % 5
		atom := difference("0abcd"[u:][:1], "0abcd"[v:][:1], d.below(2*bound+1)-bound)
		if !slices.Contains(atoms, atom) {
			atoms = append(atoms, atom)
		}
	}
	return atoms
}

// chanceOf is a condition with all of the given parts, in this order.
func chanceOf(d *dice, parts []string) string {
	not := d.of([]string{"", "", "!"})
	if len(parts) == 1 {
		return not + parts[0]
	}
	cut := 1 + d.below(len(parts)-1)
	return not + d.of([]string{"&", "|", ">"}) + chanceOf(d, parts[:cut]) + chanceOf(d, parts[cut:])
}

// oneOfTwo holds if an odd number of its parts do: nothing but all of them
// settles it.
func oneOfTwo(parts []string) string {
	if len(parts) == 1 {
		return parts[0]
	}
	first, second := oneOfTwo(parts[:len(parts)/2]), oneOfTwo(parts[len(parts)/2:])
	return "|&" + first + "!" + second + "&!" + first + second
}

// TestProveFewAtoms: with FewAtoms atoms there is always an answer, and an
// answer of either kind is held against Confirm or Value.
func TestProveFewAtoms(t *testing.T) {
	d := dice(23)
	var counts [3]int
	for range 2000 {
		atoms := chanceAtoms(&d, api.FewAtoms, []int{0, 1, 3, 40}[d.below(4)]+1)
		parts := slices.Clone(atoms)
		for range d.below(100) {
			parts = append(parts, d.of(atoms))
		}
		condition := chanceOf(&d, parts)
		answer := mustProve(t, condition, api.MaxBudget)
		counts[answer.Verdict]++
		if answer.Verdict == api.Proved {
			wantEverywhere(t, &d, condition)
		}
	}
	if counts[api.Unknown] > 0 || counts[api.Proved] < 200 || counts[api.Refuted] < 200 {
		t.Errorf("P9: with %d atoms proved, refuted, unknown: %d", api.FewAtoms, counts)
	}
}

// TestProveWhatOnlyAllAtomsSettle: these take the longest way that there is.
func TestProveWhatOnlyAllAtomsSettle(t *testing.T) {
	d := dice(29)
	for range 20 {
		atoms := chanceAtoms(&d, api.FewAtoms, 20)
		odd := oneOfTwo(atoms)
		if answer := mustProve(t, odd, api.MaxBudget); answer.Verdict == api.Unknown {
			t.Errorf("P9: Prove(%.60q) is Unknown", odd)
		}
		wantVerdict(t, "|"+odd+"!"+odd, api.Proved)
		wantVerdict(t, "&"+odd+"!"+odd, api.Refuted)
		slices.Reverse(atoms)
		wantVerdict(t, ">"+odd+oneOfTwo(atoms), api.Proved)
	}
}

func TestProveTheSameWithEveryGreaterBudget(t *testing.T) {
	d := dice(31)
	for range 150 {
		wantSameWithMore(t, chanceCondition(&d, 1+d.below(7)))
	}
	for range 15 {
		wantSameWithMore(t, chanceOf(&d, chanceAtoms(&d, 13+d.below(60), 30)))
	}
	atoms := chanceAtoms(&d, api.FewAtoms, 20)
	wantSameWithMore(t, "|"+oneOfTwo(atoms)+"!"+oneOfTwo(atoms))
}

// odds is that u - v is one of some odd numbers around 0.
func odds(u, v string, count int) string {
	parts := ""
	for i := range count {
		n := (2*i - count) | 1
		parts += "&" + difference(u, v, n) + difference(v, u, -n)
	}
	return strings.Repeat("|", count-1) + parts
}

// TestProveManyAtoms: five odd numbers are never 0 together, but to see this
// all of them must be gone through. Whatever is answered must be right.
func TestProveManyAtoms(t *testing.T) {
	for _, count := range []int{2, 5, 8, 12, 36} {
		ring := odds("a", "0", count) + odds("b", "a", count) + odds("c", "b", count) + odds("d", "c", count)
		for condition, never := range map[string]int{
			"!&&&&" + ring + odds("0", "d", count):                                                   api.Refuted,
			"!&&&&" + ring + "|0-d<=0.!0-d<=0.":                                                      api.Proved,
			"!&&&" + odds("a", "0", count*2) + odds("b", "a", count*2) + odds("0", "b", count) + "t": api.Refuted,
		} {
			if answer := mustProve(t, condition, api.MaxBudget); answer.Verdict == never {
				t.Errorf("P9: Prove(%.60q) = %+v", condition, answer)
			}
		}
	}
}

// TestProveOfPrograms asks what comes of programs, also with loops.
func TestProveOfPrograms(t *testing.T) {
	m := &maker{dice: 37}
	var counts [3]int
	for range 1000 {
		text, _ := m.program(true)
		if len(text) > api.MaxText || m.longest > api.MaxCondition {
			continue
		}
		for _, condition := range mustConditions(t, text) {
			answer := mustProve(t, condition, api.MaxBudget)
			counts[answer.Verdict]++
			if answer.Verdict == api.Proved {
				wantEverywhere(t, &m.dice, condition)
			}
			if answer.Verdict == api.Unknown && len(atomsOf(condition)) <= api.FewAtoms {
				t.Errorf("P9: Prove(%q) is Unknown", condition)
			}
		}
	}
	if counts[api.Proved] < 100 || counts[api.Refuted] < 100 {
		t.Errorf("proved, refuted, unknown: %d: they look too little over", counts)
	}
}

func TestProofsAreNewMemory(t *testing.T) {
	first := mustProve(t, firstOfTheCount, api.MaxBudget)
	want := slices.Clone(first.Proofs)
	other := mustProve(t, firstOfTheCount, api.MaxBudget)
	for whole, i := first.Proofs[:cap(first.Proofs)], 0; i < len(whole); i++ {
		whole[i] = "overwritten"
	}
	again := mustProve(t, firstOfTheCount, api.MaxBudget)
	if !slices.Equal(other.Proofs, want) || !slices.Equal(again.Proofs, want) {
		t.Errorf("P2: %q and %q, want %q", other.Proofs, again.Proofs, want)
	}
}
