package tests

import (
	"slices"
	"strings"
	"testing"

	"loop.example/g00400/impl"
)

// P12: a step is read as it was written, and no two are written alike.
func TestP12StepTexts(t *testing.T) {
	seen := map[string]impl.Step{}
	l := rightSteps()
	for _, f := range eventForms() {
		for i, e := range f.events() {
			if i%7 == 0 {
				l = append(l, taking(e))
			}
		}
	}
	d := dice(131)
	for range 2000 {
		l = append(l, turning(d.rule()), crashing(d.amounts(d.below(12))...))
	}
	for _, s := range l {
		if !lookStepText(t, "right", s) {
			t.Fatalf("%+v has no text by the tests", s)
		}
		text := impl.StepText(s)
		if other, ok := seen[text]; ok && !sameStep(other, s) {
			t.Errorf("%+v and %+v have the same text", other, s)
		}
		seen[text] = s
	}
}

// amounts are n of them, many at an end.
func (d *dice) amounts(n int) []int {
	var l []int
	for range n {
		l = append(l, []int{0, 1, 127, 128, d.below(1 << 30), top - d.below(3)}[d.below(6)])
	}
	return l
}

// P13: texts told out.
func TestP13StepText(t *testing.T) {
	for s, step := range map[string]impl.Step{
		"take tick":                        taking(tick),
		"take deposit 1":                   taking(deposit(1)),
		"take open 99 1 0":                 taking(impl.Event{Kind: impl.EvOpen, Ch: 99, Amt: 1}),
		"take close 3 250":                 taking(impl.Event{Kind: impl.EvClose, Ch: 3, Fee: 250}),
		"take price 7 0 1000000":           taking(turn(7, 0, 1000000)),
		"take admit 258 1 2 3 yes":         taking(impl.Event{Kind: impl.EvAdmit, Key: 258, Ch: 1, To: 2, Amt: 3, Yes: true}),
		"take admit 1 2 1 3 no":            taking(impl.Event{Kind: impl.EvAdmit, Key: 1, Ch: 2, To: 1, Amt: 3}),
		"take fulfill 1":                   taking(impl.Event{Kind: impl.EvFulfill, Key: 1}),
		"take fail 1000000":                taking(impl.Event{Kind: impl.EvFail, Key: 1000000}),
		"take launch 7 1 2 500 6":          taking(impl.Event{Kind: impl.EvLaunch, Key: 7, Ch: 1, To: 2, Amt: 500, Fee: 6}),
		"take arrive 42":                   taking(impl.Event{Kind: impl.EvArrive, Key: 42}),
		"take lost 999999":                 taking(impl.Event{Kind: impl.EvLost, Key: 999999}),
		"sync":                             syncing,
		"start":                            starting,
		"crash":                            crashing(),
		"crash 0":                          crashing(0),
		"crash 128 0 127":                  crashing(128, 0, 127),
		"crash " + topIs:                   crashing(top),
		"turn 30 70 10 5 100":              turning(rule(30, 70, 10, 5, 100)),
		"turn 0 0 0 0 0":                   turning(impl.Rule{}),
		"turn 1 2 3 4 5":                   turning(rule(1, 2, 3, 4, 5)),
		"turn 100 100 1000000 0 1000000":   turning(rule(100, 100, 1000000, 0, 1000000)),
		"crash" + strings.Repeat(" 7", 99): crashing(slices.Repeat([]int{7}, 99)...),
	} {
		if got := impl.StepText(step); got != s {
			t.Errorf("StepText(%+v) = %q; want %q", step, got, s)
		}
		if got, ok := impl.TextStep(s); !ok || !sameStep(got, step) {
			t.Errorf("TextStep(%q) = %+v, %v; want %+v", s, got, ok, step)
		}
	}
}

// noStepText wants StepText of the step to be empty.
func noStepText(t *testing.T, name string, s impl.Step) {
	t.Helper()
	if got := impl.StepText(s); got != "" {
		t.Errorf("%s: StepText(%+v) = %.80q", name, s, got)
	}
	lookStepText(t, name, s)
}

// P13: a field that isn't written and isn't zero, whatever else is right.
func TestP13StepTextOtherFields(t *testing.T) {
	fields := map[string]func(s *impl.Step){
		"Kind of an event":   func(s *impl.Step) { s.Event.Kind = impl.EvTick },
		"unknown Kind of it": func(s *impl.Step) { s.Event.Kind = -1 },
		"Key":                func(s *impl.Step) { s.Event.Key = 1 },
		"Ch":                 func(s *impl.Step) { s.Event.Ch = 1 },
		"To":                 func(s *impl.Step) { s.Event.To = -1 },
		"Amt":                func(s *impl.Step) { s.Event.Amt = 1 },
		"Fee":                func(s *impl.Step) { s.Event.Fee = leastInt },
		"Yes":                func(s *impl.Step) { s.Event.Yes = true },
		"an event":           func(s *impl.Step) { s.Event = deposit(5) },
		"a Keep of 0":        func(s *impl.Step) { s.Keep = []int{0} },
		"a Keep":             func(s *impl.Step) { s.Keep = []int{128, 128} },
		"Lo":                 func(s *impl.Step) { s.Rule.Lo = 1 },
		"Hi":                 func(s *impl.Step) { s.Rule.Hi = 1 },
		"Step":               func(s *impl.Step) { s.Rule.Step = -1 },
		"Min":                func(s *impl.Step) { s.Rule.Min = 1 },
		"Max":                func(s *impl.Step) { s.Rule.Max = 1 },
		"a rule":             func(s *impl.Step) { s.Rule = rule(30, 70, 10, 5, 100) },
	}
	has := map[int][]string{impl.StTake: {"Kind of an event", "unknown Kind of it", "Key", "Ch", "To", "Amt", "Fee", "Yes", "an event"}, impl.StCrash: {"a Keep of 0", "a Keep"}, impl.StTurn: {"Lo", "Hi", "Step", "Min", "Max", "a rule"}}
	for _, s := range rightSteps() {
		if len(s.Keep) > 20 {
			continue
		}
		for name, change := range fields {
			if !slices.Contains(has[s.Kind], name) {
				noStepText(t, name, changedStep(s, change))
			} else {
				lookStepText(t, name, changedStep(s, change))
			}
		}
	}
	for _, s := range steps(syncing, starting, taking(tick), turning(impl.Rule{}), turning(rule(30, 70, 10, 5, 100)), crashing()) {
		empty := s
		empty.Keep = []int{}
		if got, want := impl.StepText(empty), impl.StepText(s); got != want || got == "" {
			t.Errorf("with a Keep that is empty %+v has the text %q; else %q", s, got, want)
		}
	}
}

// P13: Kinds that are none of these, with fields of each and without.
func TestP13StepTextOtherKinds(t *testing.T) {
	for _, kind := range []int{leastInt, -5, -1, 0, 6, 7, 8, 11, 256, 257, 260, 1<<32 + 1, 1<<32 + 2, greatestInt} {
		for _, s := range steps(impl.Step{}, taking(tick), crashing(), crashing(5), turning(rule(30, 70, 10, 5, 100))) {
			s.Kind = kind
			noStepText(t, "another Kind", s)
		}
	}
	noStep(t, "the text of nothing", "")
}

// P13: an event or a rule that isn't right, at each edge of each field, and a Keep that isn't an amount at each place.
func TestP13StepTextNotRight(t *testing.T) {
	right, wrong := 0, 0
	look := func(s impl.Step) {
		if lookStepText(t, "at an edge", s) {
			right++
		} else {
			wrong++
		}
	}
	for _, f := range eventForms() {
		for _, e := range f.ends() {
			for _, field := range eventFields {
				for _, n := range fieldEdges() {
					look(taking(withField(e, field, n)))
				}
			}
			e.Yes = !e.Yes
			look(taking(e))
		}
	}
	for _, r := range rightRules() {
		for i := range 5 {
			for _, n := range append(fieldEdges(), 3, 30, 31, 69, 70, 71) {
				changed := r
				*ruleFields(&changed)[i] = n
				look(turning(changed))
			}
		}
	}
	for name, r := range wrongRules() {
		noStepText(t, name, turning(r))
	}
	for _, n := range []int{leastInt, -top, -1, top + 1, 1 << 56, greatestInt} {
		for _, count := range []int{1, 2, 5, 50} {
			for _, at := range []int{0, count / 2, count - 1} {
				keep := slices.Repeat([]int{128}, count)
				keep[at] = n
				noStepText(t, "no amount kept", crashing(keep...))
			}
		}
	}
	if min(right, wrong) < 300 {
		t.Errorf("%d right, %d wrong: the test looks at too few", right, wrong)
	}
}
