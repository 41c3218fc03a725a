package avouch_test

import (
	"strings"
	"testing"

	"avouch/api"
	"avouch/avouch"
)

const counting = "from a = 0 and b >= 0 do while a < b keep a <= b do a := a + 1 end to a = b"

const shortest = "from true do skip to true"

type refusal struct {
	text  string
	errno api.Errno
	place int
}

func wantRefusals(t *testing.T, list []refusal) {
	t.Helper()
	for _, r := range list {
		if errno, place := avouch.Check(r.text); errno != r.errno || place != r.place {
			t.Errorf("P3: Check(%.200q) = %d, %d, want %d, %d", r.text, errno, place, r.errno, r.place)
		}
	}
}

func wantPrograms(t *testing.T, texts ...string) {
	t.Helper()
	for _, text := range texts {
		if errno, place := avouch.Check(text); errno != api.OK || place != 0 {
			t.Errorf("P3: Check(%q) = %d, %d, want OK, 0", text, errno, place)
		}
	}
}

func TestCheckPrograms(t *testing.T) {
	wantPrograms(t, counting, shortest,
		"\n\n from(true)do\nskip;skip to(true)  ",
		"from a+1<=b-1 do a:=-1;b:=a-0;c:=-0;d:=999 to -999=- 999",
		"from true do if a<b then skip;skip else if true then skip else skip end end;skip to true",
		"from true do skip to a < b + 1 and c >= d - 1 or not not false")
}

func TestCheckExamples(t *testing.T) {
	wantRefusals(t, []refusal{
		{shortest, api.OK, 0},
		{"from true do skip", api.ErrText, 17},
		{"from a < do skip to true", api.ErrText, 9},
		{"from true do e := 1 to true", api.ErrText, 13},
		{"from true do a := b + c to true", api.ErrText, 22},
	})
}

func TestCheckTellsTheFirstWrongToken(t *testing.T) {
	wantRefusals(t, []refusal{
		{"from a:b do skip to true", api.ErrText, 5},
		{"from true do a::=1 to true", api.ErrText, 13},
		{"from true do a:==1 to true", api.ErrText, 16},
		{"from true do a :=\t1 to true", api.ErrText, 17},
		{"from true do skip\r\n to true", api.ErrText, 13},
		{"from a =< b do skip to true", api.ErrText, 8},
		{"from a == b do skip to true", api.ErrText, 8},
		{"from a + 1 + 1 = b do skip to true", api.ErrText, 11},
		{"from 1 - 1 = b do skip to true", api.ErrText, 7},
		{"from - a = b do skip to true", api.ErrText, 7},
		{"from --1 = b do skip to true", api.ErrText, 6},
		{"from a not = b do skip to true", api.ErrText, 7},
		{"from true = true do skip to true", api.ErrText, 10},
		{"from not do skip to true", api.ErrText, 9},
		{"from (true do skip to true", api.ErrText, 11},
		{"from true) do skip to true", api.ErrText, 9},
		{"from true do ;skip to true", api.ErrText, 13},
		{"from true do skip skip to true", api.ErrText, 18},
		{"from true do skip; end to true", api.ErrText, 19},
		{"from true do while true keep true do end to true", api.ErrText, 37},
		{"from true do while true keep true do skip to true", api.ErrText, 42},
		{"from true do if true then skip else skip else skip end to true", api.ErrText, 41},
		{"from true do 1 := a to true", api.ErrText, 13},
		{"from true do true to true", api.ErrText, 13},
		{"from true do skip to skip", api.ErrText, 21},
		{"from true do skip to true;", api.ErrText, 25},
		{"from true do skip to true do", api.ErrText, 26},
		{shortest + " " + shortest, api.ErrText, 26},
		{"\xff", api.ErrText, 0},
		{"from \x00 do", api.ErrText, 5},
	})
}

func TestCheckTellsTheLengthOfABeginning(t *testing.T) {
	for end := range len(counting) {
		text := counting[:end]
		if strings.HasSuffix(text, " ") || text == "" {
			wantRefusals(t, []refusal{{text, api.ErrText, end}, {text + "\n\n", api.ErrText, end + 2}})
		}
	}
}

func TestCheckMaxText(t *testing.T) {
	room := api.MaxText - len(shortest)
	longest := shortest + strings.Repeat(" ", room)
	wantPrograms(t, longest, strings.Repeat("\n", room)+shortest)
	wantRefusals(t, []refusal{
		{longest + " ", api.ErrLong, 0},
		{strings.Repeat("?", api.MaxText), api.ErrText, 0},
		{strings.Repeat("?", api.MaxText+1), api.ErrLong, 0},
		{strings.Repeat(" ", api.MaxText), api.ErrText, api.MaxText},
		{strings.Repeat(" ", api.MaxText+1), api.ErrLong, 0},
		{strings.Repeat("from ", 1000000), api.ErrLong, 0},
		{"from " + strings.Repeat("(", api.MaxText-5), api.ErrDeep, 5 + api.MaxDepth},
		{"from " + strings.Repeat("(", api.MaxText-4), api.ErrLong, 0},
	})
}

func TestCheckMaxNumber(t *testing.T) {
	wantPrograms(t, "from 999 = -999 do a := a + 999; a := a - 999; b := 999 to a - 999 < 0")
	wantRefusals(t, []refusal{
		{"from 1000 = 1 do skip to true", api.ErrText, 5},
		{"from -1000 = 1 do skip to true", api.ErrText, 6},
		{"from a < b + 1000 do skip to true", api.ErrText, 13},
		{"from true do a := 1000 to true", api.ErrText, 18},
		{"from true do a := b - 1000 to true", api.ErrText, 22},
		{"from true do a := 00 to true", api.ErrText, 18},
		{"from true do a := 007 to true", api.ErrText, 18},
		{"from true do a := " + strings.Repeat("9", 200) + " to true", api.ErrText, 18},
	})
}

func TestCheckMaxDepth(t *testing.T) {
	rep := strings.Repeat
	wantPrograms(t,
		"from "+rep("(", 10)+"true"+rep(")", 10)+" do skip to true",
		"from "+rep("not ", 10)+"true do skip to true",
		"from "+rep("not(", 5)+"true"+rep(")", 5)+" do skip to "+rep("(not ", 5)+"true"+rep(")", 5),
		"from true do "+rep("if true then ", 10)+"skip"+rep(" else skip end", 10)+" to true",
		"from true do "+rep("while 1=1 keep 1=1 do ", 10)+"skip"+rep(" end", 10)+" to true",
		"from true do "+rep("if 1=1 then skip else skip end;", 8)+"skip to true",
		"from "+rep("(true)and ", 11)+rep("not true or ", 11)+"true do skip to true")
	wantRefusals(t, []refusal{
		{"from " + rep("(", 11) + "true" + rep(")", 11) + " do skip to true", api.ErrDeep, 15},
		{"from true do skip to " + rep("(", 11), api.ErrDeep, 31},
		{"from " + rep("not ", 11), api.ErrDeep, 45},
		{"from " + rep("not(", 5) + "not", api.ErrDeep, 25},
		{"from " + rep("not(", 5) + "(", api.ErrDeep, 25},
		{"from true do " + rep("while 1=1 keep 1=1 do ", 10) + "while", api.ErrDeep, 233},
		{"from true do " + rep("while 1=1 keep 1=1 do ", 10) + "if", api.ErrDeep, 233},
		{"from true do " + rep("while 1=1 keep 1=1 do ", 9) + "while not not", api.ErrDeep, 217},
		{"from true do " + rep("while 1=1 keep 1=1 do ", 9) + "while 1=1 keep (", api.ErrDeep, 226},
		{"from true do " + rep("if true then ", 10) + "skip else if", api.ErrDeep, 153},
		{"from true do " + rep("if true then ", 10) + "skip else skip end; if", api.ErrText, 165},
		{"from true do " + rep("if true then ", 10) + "skip else skip end; if (", api.ErrDeep, 166},
	})
}

// A token that can't stand where it stands is ErrText even where it would be
// too deep as well: P3 names ErrText first.
func TestCheckTextAheadOfDeep(t *testing.T) {
	rep := strings.Repeat
	wantRefusals(t, []refusal{
		{"from " + rep("(", 10) + "a (", api.ErrText, 17},
		{"from " + rep("(", 10) + "if", api.ErrText, 15},
		{"from " + rep("not ", 10) + "while", api.ErrText, 45},
		{"from true do " + rep("if true then ", 10) + "(", api.ErrText, 143},
		{"from true do " + rep("if true then ", 10) + "not", api.ErrText, 143},
		{"from ? " + rep("(", 11), api.ErrText, 5},
		{"from " + rep("(", 11) + "?", api.ErrDeep, 15},
	})
}
