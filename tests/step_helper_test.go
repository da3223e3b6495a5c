package tests

import (
	"regexp"
	"slices"
	"strconv"
	"strings"
	"testing"

	"loop.example/g00400/impl"
)

// rawStep writes what the chapter tells of the Kind, right or not, and whatever the other fields have; the empty text for a Kind that has none.
func rawStep(s impl.Step) string {
	words := []string{[]string{"", "take", "sync", "crash", "start", "turn"}[max(0, s.Kind)%6]}
	switch s.Kind {
	case 1:
		words = append(words, rawText(s.Event))
	case 3:
		for _, n := range s.Keep {
			words = append(words, strconv.Itoa(n))
		}
	case 5:
		for _, n := range ruleFields(&s.Rule) {
			words = append(words, strconv.Itoa(*n))
		}
	case 2, 4:
	default:
		return ""
	}
	return strings.Join(words, " ")
}

// wantStepText holds a step against its bare one, that has only what is written.
func wantStepText(s impl.Step) string {
	bare, right := impl.Step{Kind: s.Kind}, false
	switch s.Kind {
	case 1:
		bare.Event, right = s.Event, wantEventOk(s.Event)
	case 3:
		bare.Keep, right = s.Keep, len(s.Keep) == 0 || isAmt(slices.Min(s.Keep)) && isAmt(slices.Max(s.Keep))
	case 5:
		bare.Rule, right = s.Rule, wantRuleOk(s.Rule)
	case 2, 4:
		right = true
	}
	if !right || !sameStep(s, bare) {
		return ""
	}
	return rawStep(s)
}

// lookStepText holds StepText against what the tests reckon, and TextStep of it, and tells whether there is a text.
func lookStepText(t *testing.T, name string, s impl.Step) bool {
	t.Helper()
	want, was := wantStepText(s), copyOfStep(s)
	if got := impl.StepText(s); got != want || !sameStep(s, was) {
		t.Errorf("%s: StepText(%+v) = %.80q; want %.80q", name, was, got, want)
	}
	if want == "" {
		return false
	}
	if got, ok := impl.TextStep(want); !ok || !sameStep(got, s) {
		t.Errorf("%s: TextStep(%.80q) = %+v, %v; want %+v", name, want, got, ok, s)
	}
	return true
}

// A stepReader reads the texts of steps by patterns.
type stepReader struct {
	events textReader
	crash  *regexp.Regexp
	turn   *regexp.Regexp
}

func newStepReader() stepReader {
	number := " (?:0|[1-9][0-9]*)"
	return stepReader{newTextReader(), regexp.MustCompile("^crash(?:" + number + ")*$"), regexp.MustCompile("^turn(?:" + number + "){5}$")}
}

// numbersBehind are those behind the first word; -1 where one is past every int.
func numbersBehind(s string) []int {
	l := []int{}
	for _, word := range strings.Split(s, " ")[1:] {
		n, err := strconv.Atoi(word)
		if err != nil {
			n = -1
		}
		l = append(l, n)
	}
	return l
}

func (r stepReader) want(s string) (impl.Step, bool) {
	var step impl.Step
	switch {
	case s == "sync":
		return syncing, true
	case s == "start":
		return starting, true
	case strings.HasPrefix(s, "take "):
		e, ok := r.events.want(s[5:])
		if !ok {
			return impl.Step{}, false
		}
		return taking(e), true
	case r.crash.MatchString(s):
		step = crashing(numbersBehind(s)...)
	case r.turn.MatchString(s):
		n := numbersBehind(s)
		step = turning(rule(n[0], n[1], n[2], n[3], n[4]))
	}
	if wantStepText(step) == "" {
		return impl.Step{}, false
	}
	return step, true
}

func (r stepReader) look(t *testing.T, s string) bool {
	t.Helper()
	want, right := r.want(s)
	got, ok := impl.TextStep(s)
	if !sameStep(got, want) || ok != right {
		t.Errorf("TextStep(%.80q) = %+v, %v; want %+v, %v", s, got, ok, want, right)
	}
	return right
}

func noStep(t *testing.T, what string, s string) {
	t.Helper()
	if got, ok := impl.TextStep(s); ok || !sameStep(got, impl.Step{}) {
		t.Errorf("%s: TextStep(%.80q) = %+v, %v", what, s, got, ok)
	}
}

// rightSteps are right, many of each Kind.
func rightSteps() []impl.Step {
	l := steps(syncing, starting, crashing(), crashing(0), crashing(1), crashing(128), crashing(127, 128, 129), crashing(top), crashing(0, 0), crashing(top, 0, top-1, 1000000, 10), crashing(12, 345, 6789))
	for _, f := range eventForms() {
		l = append(l, takingAll(f.ends()...)...)
	}
	for _, r := range rightRules() {
		l = append(l, turning(r))
	}
	for _, n := range []int{1, 2, 9, 10, 11, 599, 600, 601, 5000} {
		l = append(l, crashing(slices.Repeat([]int{128}, n)...), crashing(squares(n)...))
	}
	return l
}

// squares are n numbers that rise.
func squares(n int) []int {
	var l []int
	for i := range n {
		l = append(l, i*i)
	}
	return l
}
