package avouch_test

import (
	"strconv"
	"strings"
	"testing"

	"avouch/api"
	"avouch/avouch"
)

// run is what one run has to say of a program: whether it begins where it may;
// and, if so, how it ends.
type run struct{ begins, done, over, ends bool }

func runOf(t *testing.T, text string, state api.State) run {
	t.Helper()
	begins, asked, _ := avouch.Holds(text, false, state)
	if asked != api.OK {
		t.Fatalf("P5: Holds(%q, false, %v): the error %d", text, state, asked)
	}
	if !begins {
		return run{}
	}
	outcome, ran, _ := avouch.Run(text, state, 600)
	ends, asked, _ := avouch.Holds(text, true, outcome.State)
	if ran != api.OK || asked != api.OK {
		t.Fatalf("P4, P5: %q from %v to %v: the errors %d, %d", text, state, outcome.State, ran, asked)
	}
	return run{begins, outcome.Kind == api.Done, outcome.Kind == api.Over, ends}
}

// breaks tells whether a run does not do what the program says.
func (r run) breaks() bool { return r.begins && r.done && !r.ends }

// shapes are programs of which some do what they say, and others not, by the
// numbers that are put in the place of each "#". What the loops keep is right
// with some numbers alone, too.
func shapes() []string {
	return []string{
		"from a=# and b>=# do while a<b keep a<=b do a:=a+# end to a=b",
		"from a>=# do while a># keep a>=# do a:=a-#;c:=c+2 end;b:=a to b=#",
		"from a=b do while c># keep a<=b+# and b<=a+# do c:=c-1;if d<0 then a:=a+#;b:=b+# else d:=d-1 end end to a<=b+# and b<=a+# and c<=#",
		"from c<=d do while a<b keep c<=d+# do c:=a;d:=c+#;while c<d keep c<=d+# do c:=c+# end;a:=a+1 end to a>=b+# and c<=d+#",
		"from a<b do c:=a;a:=b;b:=c;if a>b+# then a:=b+# else skip end to a>b and a<=b+#",
		"from a>=# do if a<b then c:=b-# else c:=a+# end to c>=a and c>=b and c>=#",
		"from a<=b and b<=a+# do while a<c keep a<=b and b<=a+# do if b<=a then b:=b+# else a:=a+1 end end to b<=a+# or c<0",
		"from a<=c and b<=d do while a># keep a<=c and b<=d+# do a:=a-1;while b># keep b<=d+# and a<=c do b:=b-# end end to a<=c and b<=d+# and a<=#",
	}
}

func filled(d *dice, shape string) string {
	for strings.Contains(shape, "#") {
		shape = strings.Replace(shape, "#", strconv.Itoa(d.below(3)), 1)
	}
	return shape
}

func smallState(d *dice) api.State {
	return api.State{d.below(7) - 3, d.below(7) - 3, d.below(7) - 3, d.below(7) - 3}
}

// TestVerifiedShapesHold: what is proved holds in every run (P11). So that this
// says something, of each shape some must be proved and have runs that are
// Done, and some must have runs that break.
func TestVerifiedShapesHold(t *testing.T) {
	d := dice(43)
	for _, shape := range shapes() {
		proved, broken, done := 0, 0, 0
		for range 200 {
			text := filled(&d, shape)
			answer := mustVerify(t, text, api.MaxBudget)
			found := false
			for range 40 {
				r := runOf(t, text, smallState(&d))
				found = found || r.breaks()
				if r.begins && r.done && answer.Verdict == api.Proved {
					done++
				}
			}
			if found {
				broken++
			}
			if answer.Verdict == api.Proved {
				proved++
			}
			if found && answer.Verdict == api.Proved {
				t.Fatalf("P11: %q is proved, but a run breaks it", text)
			}
		}
		if proved < 8 || broken < 8 || done < 40 {
			t.Errorf("of %q %d are proved, with %d runs, and %d break: they look too little over", shape, proved, done, broken)
		}
	}
}

// TestVerifiedProgramsHold asks the same of programs of chance.
func TestVerifiedProgramsHold(t *testing.T) {
	m := &maker{dice: 47}
	loops, done := 0, 0
	for range 6000 {
		text, want := m.program(true)
		if len(text) > api.MaxText || m.longest > api.MaxCondition {
			continue
		}
		answer, _, _ := avouch.Verify(text, api.MaxBudget)
		if answer.Verdict != api.Proved {
			continue
		}
		if len(want) > 1 {
			loops++
		}
		for range 10 {
			state := smallState(&m.dice)
			r := runOf(t, text, state)
			if r.breaks() {
				t.Fatalf("P11: %q is proved, but the run from %v breaks it", text, state)
			}
			if r.begins && r.done {
				done++
			}
		}
	}
	if loops < 50 || done < 1000 {
		t.Errorf("%d proved with loops, %d runs: they look too little over", loops, done)
	}
}

// TestVerifyWithoutLoops: of a program without a loop there is a run that
// breaks it from the state that refutes it, and none if it is proved (P11).
func TestVerifyWithoutLoops(t *testing.T) {
	m := &maker{dice: 53}
	var counts [3]int
	for range 3000 {
		text, _ := m.program(false)
		if len(text) > api.MaxText || m.longest > api.MaxCondition {
			continue
		}
		answer, errno, _ := avouch.Verify(text, api.MaxBudget)
		if errno != api.OK || answer.Index != 0 {
			t.Fatalf("P10: Verify(%q) = %+v, %d", text, answer, errno)
		}
		counts[answer.Verdict]++
		switch answer.Verdict {
		case api.Refuted:
			if r := runOf(t, text, answer.Model); !r.over && !r.breaks() {
				t.Fatalf("P11: %q is refuted at %v, but the run from there does not break it: %+v", text, answer.Model, r)
			}
		case api.Proved:
			for range 10 {
				if state := smallState(&m.dice); runOf(t, text, state).breaks() {
					t.Fatalf("P11: %q is proved, but the run from %v breaks it", text, state)
				}
			}
		}
	}
	if counts[api.Proved] < 200 || counts[api.Refuted] < 200 {
		t.Errorf("proved, refuted, unknown: %d: they look too little over", counts)
	}
}
