package tests

import (
	"strings"
	"testing"

	"loop.example/g00400/impl"
)

// earnedBy reckons by the events, without a ledger, what they earn: below 0 where it is more than they pay.
func earnedBy(t *testing.T, es []impl.Event) int {
	t.Helper()
	b, sum := impl.BookNew(), 0
	for _, e := range es {
		for _, h := range b.Htlcs {
			if e.Kind == impl.EvFulfill && h.Key == e.Key {
				sum -= h.AmtIn - h.AmtOut
			}
		}
		for _, c := range b.Circles {
			if e.Kind == impl.EvArrive && c.Key == e.Key {
				sum += c.Fee
			}
		}
		next, _, code := wantApply(b, e)
		if code != 0 {
			t.Fatalf("%+v was taken, but the book refuses it with %d", e, code)
		}
		b = next
	}
	return sum
}

// doLegal does a step and holds what comes, and what is told of it as a whole, against P1.
func (x *worldLife) doLegal(t *testing.T, s impl.Step) {
	t.Helper()
	x.do(t, s)
	w := x.world
	if !impl.Legal(w) {
		t.Fatalf("behind %+v: not legal: %+v", s, shortly(w))
	}
	if got := impl.Report(w); got != wantReport(w) {
		t.Fatalf("behind %+v: Report is\n%s\nwant\n%s", s, got, wantReport(w))
	}
	want := 0
	if w.Up {
		want = earnedBy(t, w.Took)
	}
	if got := impl.Earned(w); got != want {
		t.Fatalf("behind %+v: Earned is %d; want %d: %+v", s, got, want, shortly(w))
	}
	if want < 0 {
		x.seen["earned"]++
	}
	if want > 0 {
		x.seen["paid"]++
	}
}

// P1: plays of many steps on small disks: behind each step the world is legal, and what was earned is what its events earn.
func TestP1WholeLives(t *testing.T) {
	d, seen := dice(144), map[string]int{}
	for i := range 150 {
		m := moods()[i%len(moods())]
		w, _ := impl.WorldNew(2 + d.below(60))
		x := worldLife{world: w, seen: seen}
		live(t, &x, x.doLegal, &d, m, 80, 14)
	}
	for _, what := range []string{"code 0", "code 15", "code 21", "sync", "crash", "start", "start, found some", "turn", "take", "crash, not up", "earned", "paid"} {
		if seen[what] < 20 {
			t.Errorf("%v: of %q too few", seen, what)
		}
	}
}

// P1: likewise on great disks.
func TestP1WholeLivesOnGreatDisks(t *testing.T) {
	d, seen := dice(145), map[string]int{}
	for i, cells := range []int{600, 599, 400} {
		w, _ := impl.WorldNew(cells)
		x := worldLife{world: w, seen: seen}
		live(t, &x, x.doLegal, &d, moods()[i], 350, 30)
	}
	if seen["crash"] < 5 || seen["sync"] < 5 || seen["code 0"] < 200 {
		t.Errorf("%v: the test looks at too few", seen)
	}
}

// P1: whatever part of each of two writes a crash keeps, the world is legal behind it and behind the start, and so is what comes then.
func TestP1WholeTorn(t *testing.T) {
	text := "start\ntake deposit 1000\ntake open 1 200 300\ntake open 2 400 100\nsync\ntake launch 8 2 1 30 3\ntake arrive 8\n"
	found := map[string]int{}
	for one := range 130 {
		for _, two := range []int{0, 1, 64, 127, 128, 129} {
			for _, cells := range []int{8, 9, 12} {
				w, line := impl.Run(cells, text+"crash "+impl.NumText(one)+" "+impl.NumText(two)+"\n")
				if line != 0 || w.Up || !impl.Legal(w) || impl.Report(w) != "down 5 3\n" || impl.Earned(w) != 0 {
					t.Fatalf("%d and %d kept: %+v", one, two, shortly(w))
				}
				w = impl.Do(w, starting)
				if !impl.Legal(w) || impl.Earned(w) != max(0, 3*(len(w.Took)-4)) {
					t.Fatalf("%d and %d kept, started: %+v", one, two, shortly(w))
				}
				found[strings.Fields(impl.Report(w))[1]]++
				if w = impl.Play(w, steps(taking(tick), syncing, crashing(), starting)); !impl.Legal(w) {
					t.Fatalf("%d and %d kept, and then: %+v", one, two, shortly(w))
				}
			}
		}
	}
	if found["3"] == 0 || found["4"] == 0 || found["5"] == 0 {
		t.Errorf("%v are found", found)
	}
}

// P1: a run that is parted in two, wherever that is, ends as the run in one part.
func TestP1RunInParts(t *testing.T) {
	d := dice(146)
	for i := range 60 {
		cells, text, told := d.aScript(moods()[i%len(moods())], 40)
		all, line := impl.Run(cells, text)
		rows := strings.SplitAfter(text, "\n")
		for at := range rows {
			head, n := impl.Run(cells, strings.Join(rows[:at], ""))
			rest, m := impl.ReadScript(strings.Join(rows[at:], ""))
			if got := impl.Play(head, rest); line+n+m != 0 || !sameWorld(got, all) || !sameSteps(rest, told[at:]) {
				t.Fatalf("Run(%d, %q) parted at %d = %+v; want %+v", cells, text, at, shortly(got), shortly(all))
			}
			if !impl.Legal(head) {
				t.Fatalf("Run(%d, %q) isn't legal behind %d steps", cells, text, at)
			}
		}
		if !impl.Legal(all) || impl.Report(all) != wantReport(all) {
			t.Fatalf("Run(%d, %q) makes %+v", cells, text, shortly(all))
		}
	}
	lookParts(t, "a new world", downWith(laid(20)), toldSteps(t, aLife+"crash 128 0 128\nstart\ntake tick\nsync\ncrash\nstart\n"))
}

// toldSteps are the steps of a script, which must be one.
func toldSteps(t *testing.T, text string) []impl.Step {
	t.Helper()
	l, line := impl.ReadScript(text)
	if line != 0 {
		t.Fatalf("%q has no step in line %d", text, line)
	}
	return l
}
