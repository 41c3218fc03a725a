package avouch_test

import (
	"strings"
	"testing"

	"avouch/api"
	"avouch/avouch"
)

const firstOfTheCount = ">&&a-0<=0.0-a<=0.0-b<=0.a-b<=0."

func wantConfirm(t *testing.T, condition, proof string, want bool) {
	t.Helper()
	if got, errno := avouch.Confirm(condition, proof); got != want || errno != api.OK {
		t.Errorf("P8: Confirm(%.60q, %.60q) = %v, %d, want %v", condition, proof, got, errno, want)
	}
}

func TestConfirmExamples(t *testing.T) {
	wantConfirm(t, firstOfTheCount, "?3:.?0:?2:!0,2,3;..", true)
	wantConfirm(t, "t", ".", true)
	wantConfirm(t, "f", ".", false)
	wantConfirm(t, "|a-b<=0.b-a<=0.", "?0:.!0;", false)
	wantConfirm(t, "|a-b<=0.b-a<=0.", "?0:.?1:.!0,1;", true)
}

// TestConfirmWhatIsOpen asks each mark of parts that hold, fail or are open.
func TestConfirmWhatIsOpen(t *testing.T) {
	parts := map[string]int{"f": 0, "a-b<=0.": 1, "t": 2}
	settles := func(condition string, truth int) {
		t.Helper()
		wantConfirm(t, condition, ".", truth == 2)
		wantConfirm(t, "!"+condition, ".", truth == 0)
	}
	for first, p := range parts {
		settles(first, p)
		settles("!!"+first, p)
		for second, q := range parts {
			settles("&"+first+second, min(p, q))
			settles("|"+first+second, max(p, q))
			settles(">"+first+second, max(2-p, q))
		}
	}
	wantConfirm(t, "|a-b<=0.!a-b<=0.", ".", false)
	wantConfirm(t, ">a-b<=0.a-b<=0.", ".", false)
	wantConfirm(t, "!&a-b<=0.!a-b<=0.", ".", false)
	wantConfirm(t, "|a-b<=0.!a-b<=0.", "?0:..", true)
	wantConfirm(t, ">a-b<=0.a-b<=0.", "?0:..", true)
}

func TestConfirmSplits(t *testing.T) {
	const sure = "&|a-b<=0.!a-b<=0.|c-d<=0.!c-d<=0."
	wantConfirm(t, sure, "?0:?1:..?1:..", true)
	wantConfirm(t, sure, "?1:?0:..?0:..", true)
	wantConfirm(t, sure, "?0:?1:...", false)
	wantConfirm(t, sure, "?0:.?1:..", false)
	wantConfirm(t, sure, "?0:?0:?1:..?1:..?1:..", false)
	wantConfirm(t, sure, "?0:?1:..?0:?1:..?1:..", false)
	wantConfirm(t, sure, "?0:?1:..?1:?1:...", false)
	wantConfirm(t, sure, "?0:?2:..?1:..", false)
	wantConfirm(t, "t", "?0:..", false)
	wantConfirm(t, "|ta-b<=0.", "?0:..", true)
	wantConfirm(t, "|ta-b<=0.", "?1:..", false)
	// In the first branch the atom holds, in the second one it does not.
	wantConfirm(t, "|a-b<=0.b-a<=0.", "?0:?1:..?1:.!0,1;", true)
	wantConfirm(t, "|a-b<=0.b-a<=0.", "?0:?1:..?1:!0,1;.", false)
}

// TestConfirmNumbers: the same atom has one number, in the order in which they
// come first.
func TestConfirmNumbers(t *testing.T) {
	const twice = "|&a-b<=0.a-b<=0.|!a-b<=0.c-d<=0."
	wantConfirm(t, twice, "?0:..", true)
	wantConfirm(t, twice, "?1:.?0:..", true)
	wantConfirm(t, twice, "?2:..", false)
	wantConfirm(t, twice, "?3:.?0:..", false)
	// Atoms that say the same with other words are others.
	wantConfirm(t, "|a-b<=0.b-a<=-1.", "?0:..", false)
	wantConfirm(t, "|a-b<=0.b-a<=-1.", "?0:.?1:.!0,1;", true)
	var eleven strings.Builder
	for i := range 11 {
		eleven.WriteString("|" + difference("a", "b", i))
	}
	wantConfirm(t, eleven.String()+"!a-b<=10.", "?10:..", true)
	wantConfirm(t, eleven.String()+"!a-b<=9.", "?10:..", false)
	wantConfirm(t, eleven.String()+"!a-b<=9.", "?9:..", true)
	wantConfirm(t, eleven.String()+"!a-b<=9.", "?09:..", false)
}

func TestConfirmCycles(t *testing.T) {
	const ring = "!&&a-b<=1.b-c<=1.c-a<=-3."
	for _, cycle := range []string{"0,1,2", "1,2,0", "2,0,1", "0,1,2,0,1,2", "2,0,1,2,0,1"} {
		wantConfirm(t, ring, "?0:?1:?2:!"+cycle+";...", true)
	}
	for _, cycle := range []string{"0,2,1", "2,1,0", "0,1", "2", "0,1,2,0", "0,1,1,2", "0,0,1,2", "0,1,2,3", "0,1,2,2"} {
		wantConfirm(t, ring, "?0:?1:?2:!"+cycle+";...", false)
	}
	wantConfirm(t, "!&&a-b<=1.b-c<=1.c-a<=-2.", "?0:?1:?2:!0,1,2;...", false)
	wantConfirm(t, ring, "?0:?1:!0,1,2;?2:...", false) // nothing is assumed of 2
	// A cycle is a proof, also where the condition is settled or holds.
	wantConfirm(t, "|t&&a-b<=1.b-c<=1.c-a<=-3.", "?0:?1:?2:!0,1,2;...", true)
	wantConfirm(t, "&f&&a-b<=1.b-c<=1.c-a<=-3.", "?0:?1:?2:!0,1,2;...", false)
	// Through all operands.
	wantConfirm(t, "!&&&&a-b<=2.b-c<=2.c-d<=2.d-0<=2.0-a<=-9.", "?0:?1:?2:?3:?4:!0,1,2,3,4;.....", true)
	wantConfirm(t, "!&&&&a-b<=2.b-c<=2.c-d<=2.d-0<=2.0-a<=-8.", "?0:?1:?2:?3:?4:!0,1,2,3,4;.....", false)
	// Some hold, some do not: a - b <= 3, and not a - b <= 5, is b - a <= -6.
	wantConfirm(t, ">a-b<=3.a-b<=5.", "?0:?1:.!0,1;.", true)
	wantConfirm(t, ">a-b<=3.a-b<=5.", "?0:?1:.!1,0;.", true)
	wantConfirm(t, ">a-b<=3.a-b<=3.", "?0:..", true)
	wantConfirm(t, ">a-b<=5.a-b<=4.", "?0:?1:.!0,1;.", false)
}

func TestConfirmAtMaxBound(t *testing.T) {
	const proof = "?0:.?1:.!0,1;"
	wantConfirm(t, "|a-b<=999999.b-a<=-999999.", proof, true)
	wantConfirm(t, "|a-b<=-999999.b-a<=999998.", proof, true)
	wantConfirm(t, "|a-b<=-999999.b-a<=999997.", proof, false)
	wantConfirm(t, "|a-b<=999998.b-a<=-999999.", proof, true)
	wantConfirm(t, "|a-b<=999997.b-a<=-999999.", proof, false)
	wantNoConfirm(t, "|a-b<=1000000.b-a<=0.", proof)
	wantNoConfirm(t, "|a-b<=0.b-a<=-1000000.", proof)
}

func wantNoConfirm(t *testing.T, text, proof string) {
	t.Helper()
	if got, errno := avouch.Confirm(text, proof); got || errno != api.ErrCondition {
		t.Errorf("P8: Confirm(%.60q, %.60q) = %v, %d, want ErrCondition", text, proof, got, errno)
	}
}

func TestConfirmErrors(t *testing.T) {
	for _, text := range []string{"", "tt", "a-a<=0.", "a-b<=00.", "a-b<=0", "a-b <=0.", "&t", strings.Repeat("!", 3000000)} {
		for _, proof := range []string{".", "", "?0:..", strings.Repeat(".", api.MaxProof+1)} {
			wantNoConfirm(t, text, proof)
		}
	}
	even := strings.Repeat("!", api.MaxCondition-2)
	wantConfirm(t, even+"t", ".", true)
	wantConfirm(t, "!"+even+"f", ".", true)
	wantNoConfirm(t, "!!"+even+"t", ".")
}

func TestConfirmWrongTexts(t *testing.T) {
	for _, proof := range []string{"", " ", ". ", " .", "..", ".\n", "!", "!;", "!0", "!0;", "?", "?0", "?0:", "?0:.", "t", "\x00", "\xff", ":", ";", ",", "0", ".."} {
		wantConfirm(t, "t", proof, false)
	}
	const right = "?3:.?0:?2:!0,2,3;.."
	for i := range right {
		wantConfirm(t, firstOfTheCount, right[:i], false)
		wantConfirm(t, firstOfTheCount, right[:i]+right[i+1:], false)
		wantConfirm(t, firstOfTheCount, right[:i]+" "+right[i:], false)
		wantConfirm(t, firstOfTheCount, right[:i]+"0"+right[i:], false)
	}
	wantConfirm(t, firstOfTheCount, right, true)
	for _, bad := range []string{"+3", "-3", "03", "3.0", "0x3", "3 ", "\u0663", "", "4", "9223372036854775807", "9223372036854775808", "18446744073709551619", "-18446744073709551613", strings.Repeat("9", 100000)} {
		wantConfirm(t, firstOfTheCount, "?"+bad+":.?0:?2:!0,2,3;..", false)
		wantConfirm(t, firstOfTheCount, "?3:.?0:?2:!0,2,"+bad+";..", false)
	}
	for _, bad := range []string{"0,2,3,", ",0,2,3", "0,,2,3", "0;2;3", "0 2 3", "0.2.3"} {
		wantConfirm(t, firstOfTheCount, "?3:.?0:?2:!"+bad+";..", false)
	}
}

// TestConfirmAtMaxProof makes proofs long by going round a cycle many times.
func TestConfirmAtMaxProof(t *testing.T) {
	condition := strings.Repeat("|", 12)
	for i := range 13 {
		if i == 1 {
			condition += "b-a<=0."
		} else {
			condition += difference("a", "b", i)
		}
	}
	ring := func(begin string, bytes int) string {
		begin += "?0:.?1:.!0,1"
		rounds := (bytes - len(begin) - len(";")) / len(",0,1")
		return begin + strings.Repeat(",0,1", rounds) + ";"
	}
	longest := ring("?10:.?11:.?12:.", api.MaxProof)
	tooLong := ring("", api.MaxProof+1)
	if len(longest) != api.MaxProof || len(tooLong) != api.MaxProof+1 {
		t.Fatalf("proofs of %d and %d bytes: not those that are wanted", len(longest), len(tooLong))
	}
	wantConfirm(t, condition, longest, true)
	wantConfirm(t, condition, tooLong, false)
	wantConfirm(t, condition, ring("", api.MaxProof-3), true)
	wantConfirm(t, "t", strings.Repeat(".", 50000000), false)
}

// TestConfirmDeep goes down through as many atoms as a condition can have.
func TestConfirmDeep(t *testing.T) {
	condition, proof := "", ""
	for i := 0; len(condition) < api.MaxCondition-40; i++ {
		condition += "|" + difference("0abcd"[i%5:][:1], "0abcd"[(i+1+i/5%4)%5:][:1], i/20)
		proof += "?" + digits(i) + ":."
	}
	wantConfirm(t, condition+"t", proof+".", true)
	wantConfirm(t, condition+"f", proof+".", false)
	wantConfirm(t, condition+"!a-b<=0.", proof+".", true)
}
