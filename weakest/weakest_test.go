package weakest

import (
	"slices"
	"strings"
	"testing"

	"avouch/api"
	"avouch/syntax"
)

func mustParse(t *testing.T, text string) syntax.Program {
	t.Helper()
	program, errno, place := syntax.Parse(text)
	if errno != api.OK {
		t.Fatalf("%q is no program: %d, %d", text, errno, place)
	}
	return program
}

// mustConditions are the texts of a program's conditions.
func mustConditions(t *testing.T, text string) []string {
	t.Helper()
	list, fits := Conditions(mustParse(t, text))
	if !fits {
		t.Fatalf("%q has a condition that is too long", text)
	}
	var texts []string
	for _, whole := range list {
		texts = append(texts, whole.Text())
	}
	return texts
}

func TestFormulas(t *testing.T) {
	for text, want := range map[string]string{
		"true":                       "t",
		"false":                      "f",
		"a < b":                      "a-b<=-1.",
		"a <= b":                     "a-b<=0.",
		"a > b":                      "b-a<=-1.",
		"a >= b":                     "b-a<=0.",
		"a = b":                      "&a-b<=0.b-a<=0.",
		"a + 5 < b - 3":              "a-b<=-9.",
		"a + 5 <= b - 3":             "a-b<=-8.",
		"a + 5 > b - 3":              "b-a<=7.",
		"a + 5 >= b - 3":             "b-a<=8.",
		"a + 5 = b - 3":              "&a-b<=-8.b-a<=8.",
		"7 <= d":                     "0-d<=-7.",
		"-7 <= d":                    "0-d<=7.",
		"d <= -7":                    "d-0<=-7.",
		"c = -0":                     "&c-0<=0.0-c<=0.",
		"c - 999 <= d + 999":         "c-d<=1998.",
		"c + 999 < d - 999":          "c-d<=-1999.",
		"a <= a":                     "t",
		"a < a":                      "f",
		"a < a + 1":                  "t",
		"a + 1 = a":                  "&ft",
		"3 = 3":                      "&tt",
		"3 > 3":                      "f",
		"not not a < b":              "!!a-b<=-1.",
		"true or false or true":      "||tft",
		"true and false and true":    "&&tft",
		"true or false and true":     "|t&ft",
		"true and (false or true)":   "&t|ft",
		"not (true and false)":       "!&tf",
		"true or (false or true)":    "|t|ft",
		"a = 1 or b = 1 and not 1<0": "|&a-0<=1.0-a<=-1.&&b-0<=1.0-b<=-1.!f",
	} {
		program := mustParse(t, "from "+text+" do skip to true")
		if got := formula(program.From).Text(); got != want {
			t.Errorf("%q as a condition: %q, want %q", text, got, want)
		}
	}
}

func TestConditionsStandInTheOrderOfTheLoops(t *testing.T) {
	loop := func(number, body string) string {
		return "while a<" + number + " keep true do " + body + " end"
	}
	text := "from true do " + loop("1", loop("2", "skip")+";"+loop("3", "skip")) + ";" +
		"if true then " + loop("4", "skip") + " else " + loop("5", "skip") + " end;" + loop("6", "skip") + " to true"
	list := mustConditions(t, text)
	if len(list) != 13 {
		t.Fatalf("%q", list)
	}
	for i, number := range []string{"0", "1", "2", "3", "4", "5"} {
		test := "a-0<=" + number + "."
		want := []string{">&t" + test, ">&t!" + test}
		for k := range want {
			if got := list[1+2*i+k]; !strings.HasPrefix(got, want[k]) {
				t.Errorf("condition %d is %q, want %q at its beginning", 1+2*i+k, got, want[k])
			}
		}
	}
}

func TestWhatGoesAroundALoop(t *testing.T) {
	list := mustConditions(t, "from a<1 do while b<1 keep b<2 do b:=b+1; while c<1 keep c<2 do c:=c+2 end; b:=b+3 end; d:=d+4 to d<1")
	want := []string{
		">a-0<=0.b-0<=1.",
		">&b-0<=1.b-0<=0.c-0<=1.",
		">&b-0<=1.!b-0<=0.d-0<=-4.",
		">&c-0<=1.c-0<=0.c-0<=-1.",
		">&c-0<=1.!c-0<=0.b-0<=-2.",
	}
	if !slices.Equal(list, want) {
		t.Errorf("%q, want %q", list, want)
	}
}
