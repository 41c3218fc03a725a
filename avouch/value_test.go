package avouch_test

import (
	"math"
	"regexp"
	"strconv"
	"strings"
	"testing"

	"avouch/api"
	"avouch/avouch"
)

func wantValue(t *testing.T, condition string, state api.State, want bool) {
	t.Helper()
	if got, errno := avouch.Value(condition, state); got != want || errno != api.OK {
		t.Errorf("P7: Value(%.60q, %v) = %v, %d, want %v", condition, state, got, errno, want)
	}
}

func wantNoCondition(t *testing.T, text string) {
	t.Helper()
	for _, state := range []api.State{{}, {math.MaxInt}} {
		if got, errno := avouch.Value(text, state); got || errno != api.ErrCondition {
			t.Errorf("P7: Value(%.60q, %v) = %v, %d, want ErrCondition", text, state, got, errno)
		}
	}
}

func TestValueExamples(t *testing.T) {
	wantValue(t, "a-b<=0.", api.State{1, 2}, true)
	for _, text := range []string{"a-a<=0.", "a-b<=00.", "a-b<=0", "a-b <=0.", ""} {
		wantNoCondition(t, text)
	}
}

func TestValueOfEveryPair(t *testing.T) {
	state := api.State{1, -2, 4, -8}
	values := map[string]int{"0": 0, "a": 1, "b": -2, "c": 4, "d": -8}
	for u, left := range values {
		for v, right := range values {
			if u == v {
				wantNoCondition(t, u+"-"+v+"<=0.")
				continue
			}
			for bound := -15; bound <= 15; bound++ {
				wantValue(t, u+"-"+v+"<="+strconv.Itoa(bound)+".", state, left-right <= bound)
			}
		}
	}
}

func TestValueOfEveryMark(t *testing.T) {
	letter := map[bool]string{true: "t", false: "f"}
	for p, first := range letter {
		wantValue(t, first, api.State{}, p)
		wantValue(t, "!"+first, api.State{}, !p)
		for q, second := range letter {
			wantValue(t, "&"+first+second, api.State{}, p && q)
			wantValue(t, "|"+first+second, api.State{}, p || q)
			wantValue(t, ">"+first+second, api.State{}, !p || q)
			wantValue(t, ">!"+first+"&"+second+"t", api.State{}, p || q)
			wantValue(t, "|&"+first+"t>"+second+"f", api.State{}, p || !q)
		}
	}
}

func TestValueAtMaxBound(t *testing.T) {
	wantValue(t, "a-0<=999999.", api.State{999999}, true)
	wantValue(t, "a-0<=999999.", api.State{1000000}, false)
	wantValue(t, "a-0<=-999999.", api.State{-999999}, true)
	wantValue(t, "a-0<=-999999.", api.State{-999998}, false)
	for _, bound := range []string{"1000000", "-1000000", "9999999", "18446744073709551616", "18446744073709551617", "-18446744073709551615", strings.Repeat("9", 3000)} {
		wantNoCondition(t, "a-0<="+bound+".")
	}
}

func TestValueAtMaxCondition(t *testing.T) {
	const most = api.MaxCondition
	wantValue(t, strings.Repeat("!", most-1)+"t", api.State{}, false)
	wantValue(t, strings.Repeat("!", most-1)+"f", api.State{}, true)
	wantValue(t, strings.Repeat("&", most/2-1)+strings.Repeat("t", most/2), api.State{}, true)
	wantValue(t, strings.Repeat("|f", most/2-1)+"!f", api.State{}, true)
	wantNoCondition(t, strings.Repeat("!", most)+"t")
	wantNoCondition(t, strings.Repeat("|f", most/2)+"t")
	wantNoCondition(t, strings.Repeat("!", 3000000)+"t")
	wantNoCondition(t, strings.Repeat("&", most))
	wantNoCondition(t, "a-b<="+strings.Repeat("0", most))
}

func TestValueAtMaxValue(t *testing.T) {
	state := api.State{api.MaxValue, -api.MaxValue, api.MaxValue, -api.MaxValue}
	wantValue(t, "a-b<=999999.", state, false)
	wantValue(t, "b-a<=-999999.", state, true)
	wantValue(t, "&a-c<=0.b-d<=0.", state, true)
	for _, bad := range []int{api.MaxValue + 1, -api.MaxValue - 1, math.MaxInt, math.MinInt} {
		for i := range api.Vars {
			state := api.State{}
			state[i] = bad
			for _, condition := range []string{"t", "b-c<=0."} {
				if got, errno := avouch.Value(condition, state); got || errno != api.ErrState {
					t.Errorf("P7: Value(%q, %v) = %v, %d, want ErrState", condition, state, got, errno)
				}
			}
		}
	}
}

func TestValueRefuses(t *testing.T) {
	for _, text := range []string{
		"!", "&", "|", ">", "&t", "|f", ">t", "!!", "&&tt", "tt", "ft", "!tt", "&ttt", "t!", "a-b<=0.t", "ta-b<=0.",
		" t", "t ", "t\n", "! t", "& tt", "a -b<=0.", "a- b<=0.", "a-b< =0.", "a-b<= 0.", "a-b<=0 .", "a-b<=0. ",
		"a", "0", "a-", "a-b", "a-b<", "a-b<=", "a-b<=.", "a-b<=-.", "a-b<=-", ".", "a-b<=0..", "a-b<=0.0", "a-b<=1.5.",
		"a-b<0.", "a-b=0.", "a-b>=0.", "a-b=<0.", "a+b<=0.", "a-b<==0.", "a--b<=0.", "-a-b<=0.", "a-b-c<=0.", "a<=0.", "ab-c<=0.",
		"0-0<=0.", "d-d<=-1.", "a-e<=0.", "e-a<=0.", "a-1<=0.", "1-a<=0.", "A-b<=0.", "t-a<=0.",
		"a-b<=-0.", "a-b<=+0.", "a-b<=+1.", "a-b<=01.", "a-b<=-01.", "a-b<=000.", "a-b<=--1.", "a-b<=1_0.", "a-b<=0x1.", "a-b<=1e3.", "a-b<=\u0661.",
		"T", "true", "not", "(t)", "\x00", "\xff", "t\x00", "&t\u00ff",
	} {
		wantNoCondition(t, text)
	}
}

var atomBegins = regexp.MustCompile(`^([0abcd])-([0abcd])<=(0|-?[1-9][0-9]{0,5})\.`)

// reread is a second reader of conditions: the value of the first condition in
// a text, and what stands behind it.
func reread(text string, state api.State) (value bool, rest string, right bool) {
	if text == "" {
		return false, "", false
	}
	if found := atomBegins.FindStringSubmatch(text); found != nil && found[1] != found[2] {
		bound, _ := strconv.Atoi(found[3])
		named := func(name string) int { return append([]int{0}, state[:]...)[strings.Index("0abcd", name)] }
		return named(found[1])-named(found[2]) <= bound, text[len(found[0]):], true
	}
	switch text[0] {
	case 't', 'f':
		return text[0] == 't', text[1:], true
	case '!':
		inner, rest, right := reread(text[1:], state)
		return !inner, rest, right
	case '&', '|', '>':
		first, middle, well := reread(text[1:], state)
		second, rest, right := reread(middle, state)
		value := map[byte]bool{'&': first && second, '|': first || second, '>': !first || second}[text[0]]
		return value, rest, well && right
	}
	return false, "", false
}

func chanceCondition(d *dice, room int) string {
	kind := d.below(9)
	if room == 0 {
		kind = 4 + d.below(5)
	}
	switch kind {
	case 0:
		return "!" + chanceCondition(d, room-1)
	case 1, 2, 3:
		return "!&|>"[kind:kind+1] + chanceCondition(d, room-1) + chanceCondition(d, room-1)
	case 4:
		return d.of([]string{"t", "f"})
	}
	u := d.below(5)
	v := (u + 1 + d.below(4)) % 5
	return "0abcd"[u:u+1] + "-" + "0abcd"[v:v+1] + "<=" + strconv.Itoa(d.below(21)-10) + "."
}

// TestValueAgainstASecondReader asks conditions of chance, and texts that are
// nearly conditions.
func TestValueAgainstASecondReader(t *testing.T) {
	d := dice(11)
	var right, wrong [2]int
	for range 40000 {
		text := []byte(chanceCondition(&d, d.below(7)))
		for range max(0, d.below(4)-1) {
			at := d.below(len(text))
			switch d.below(3) {
			case 0:
				text = append(text[:at:at], text[at+1:]...)
			case 1:
				text[at] = "0abcd-<=.19tf!&|> "[d.below(18)]
			case 2:
				text = append(text[:at:at], append([]byte{"0abcd-<=.19tf!&|> "[d.below(18)]}, text[at:]...)...)
			}
			if len(text) == 0 {
				break
			}
		}
		state := api.State{d.below(13) - 6, d.below(13) - 6, d.below(13) - 6, d.below(13) - 6}
		want, rest, well := reread(string(text), state)
		if !well || rest != "" {
			wrong[min(len(text)/20, 1)]++
			wantNoCondition(t, string(text))
			continue
		}
		right[map[bool]int{true: 1}[want]]++
		wantValue(t, string(text), state, want)
	}
	for _, count := range append(right[:], wrong[:]...) {
		if count < 1000 {
			t.Errorf("conditions that hold or not: %d, short and long texts that are none: %d: they look too little over", right, wrong)
		}
	}
}
