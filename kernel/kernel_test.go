package kernel

import (
	"strings"
	"testing"

	"avouch/api"
	"avouch/logic"
)

func mustParse(t *testing.T, text string) logic.Condition {
	t.Helper()
	whole, right := logic.Parse(text)
	if !right {
		t.Fatalf("%q is no condition", text)
	}
	return whole
}

// TestOneKernelForSeveral: what was assumed in a proof that was refused
// halfway is gone ahead of the next one.
func TestOneKernelForSeveral(t *testing.T) {
	k := New()
	for _, c := range []struct {
		condition, proof string
		want             bool
	}{
		{"|a-b<=0.!a-b<=0.", "?0:..", true},
		{"|a-b<=0.!a-b<=0.", "?0:..", true},
		{"a-b<=0.", "?0:..", false},
		{"|a-b<=0.!a-b<=0.", ".", false},
		{"|a-b<=0.!a-b<=0.", "?0:.", false},
		{"|a-b<=0.!a-b<=0.", "?0:..", true},
		{"&a-b<=0.b-a<=-1.", "?0:?1:!0,1;", false},
		{"&a-b<=0.b-a<=-1.", "!0,1;", false},
		{"f", ".", false},
		{"t", ".", true},
		{"t", strings.Repeat(".", api.MaxProof+1), false},
		{"|a-b<=0.b-a<=0.", "?0:.?1:.!0,1;", true},
	} {
		if got := k.Confirms(mustParse(t, c.condition), c.proof); got != c.want {
			t.Errorf("%q of %q: %v, want %v", c.proof, c.condition, got, c.want)
		}
	}
}

func TestNothingIsAssumedBehindAProof(t *testing.T) {
	k := New()
	if !k.Confirms(mustParse(t, "&|a-b<=0.!a-b<=0.|c-d<=0.!c-d<=0."), "?0:?1:..?1:..") {
		t.Error("a proof that is refused")
	}
	if len(k.assumed) != 0 {
		t.Errorf("still assumed: %v", k.assumed)
	}
}
