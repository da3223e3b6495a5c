package tests

import (
	"testing"

	"loop.example/g00400/impl"
)

// The fields that the chapter gives a rule, and no other: without them this isn't built.
var _ = struct{ Lo, Hi, Step, Min, Max int }(impl.Rule{})

func TestP13RuleOk(t *testing.T) {
	for name, r := range rightRules() {
		if !impl.RuleOk(r) || !wantRuleOk(r) {
			t.Errorf("%s: RuleOk is %v, the tests reckon %v", name, impl.RuleOk(r), wantRuleOk(r))
		}
	}
	for name, r := range wrongRules() {
		if impl.RuleOk(r) || wantRuleOk(r) {
			t.Errorf("%s: RuleOk is %v, the tests reckon %v", name, impl.RuleOk(r), wantRuleOk(r))
		}
	}
}

// P13: all Lo and Hi there are, and some beyond.
func TestP13RuleOkOfAllLimits(t *testing.T) {
	right := 0
	for lo := -2; lo <= 102; lo++ {
		for hi := -2; hi <= 102; hi++ {
			want := lo >= 0 && hi >= lo && hi <= 100
			if got := impl.RuleOk(rule(lo, hi, 10, 5, 100)); got != want {
				t.Errorf("RuleOk of %d to %d = %v", lo, hi, got)
			}
			if want {
				right++
			}
		}
	}
	if right != 101*102/2 {
		t.Errorf("%d were right", right)
	}
}

// P13: all five fields at all edges at once.
func TestP13RuleOkAtEdges(t *testing.T) {
	limits := []int{leastInt, -1, 0, 1, 50, 99, 100, 101, 1<<32 + 50, greatestInt}
	fees := []int{leastInt, -1000000, -1, 0, 1, 101, 999999, 1000000, 1000001, 1<<32 + 5, top, greatestInt}
	right := 0
	for _, lo := range limits {
		for _, hi := range limits {
			for _, step := range fees {
				for _, least := range fees {
					for _, most := range fees {
						r := rule(lo, hi, step, least, most)
						want := wantRuleOk(r)
						if got := impl.RuleOk(r); got != want {
							t.Errorf("RuleOk of %+v = %v", r, got)
						}
						if want {
							right++
						}
					}
				}
			}
		}
	}
	if right != 15*5*15 {
		t.Errorf("%d were right", right)
	}
}

// P13: of a rule that isn't right there is no next fee, no turn and no rest, whatever the channel and the book.
func TestP13WrongRules(t *testing.T) {
	still := charging(1000, 500, 50)
	for name, r := range wrongRules() {
		for _, c := range []impl.Chan{still, charging(1000, 0, 50), charging(1000, 1000, 50), charging(0, 0, 0), charging(top, 0, 1000000), {}} {
			if got := impl.NextPpm(c, r); got != -1 {
				t.Errorf("%s: NextPpm of %+v = %d", name, c, got)
			}
		}
		for book, b := range planBooks() {
			if l := impl.Turns(b, r); len(l) > 0 {
				t.Errorf("%s: Turns of %s = %+v", name, book, l)
			}
			if impl.Steady(b, r) {
				t.Errorf("%s: %s is steady", name, book)
			}
		}
	}
	// The same are something by a right one.
	if impl.NextPpm(still, rightRules()["plain"]) != 50 || !impl.Steady(impl.BookNew(), rightRules()["plain"]) {
		t.Error("by a right rule there is nothing either")
	}
}
