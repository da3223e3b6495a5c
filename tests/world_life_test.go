package tests

import (
	"slices"
	"testing"

	"loop.example/g00400/impl"
)

// A worldLife is a world that is played by chance, and beside it how many of Took were let go since the last start, and what the test has seen.
type worldLife struct {
	world  impl.World
	synced int
	seen   map[string]int
}

// lookP1 holds a world against P1: Sent is a beginning of Took, and the hub's book and every account of its ledger are what Took makes.
func lookP1(t *testing.T, behind string, w impl.World) {
	t.Helper()
	if !isBeginning(w.Sent, w.Took, 0) {
		t.Fatalf("behind %s: sent are %v, taken %v", behind, w.Sent, w.Took)
	}
	if !w.Up {
		return
	}
	book, postings, got := impl.ApplyAll(impl.BookNew(), w.Took)
	refused := slices.ContainsFunc(got, func(code int) bool { return code != 0 })
	if refused || !sameBook(book, w.Hub.Book) || !impl.SameBook(book, w.Hub.Book) {
		t.Fatalf("behind %s: of %v come %v and %+v; the hub has %+v", behind, w.Took, got, book, w.Hub.Book)
	}
	l, posted := impl.PostAll(impl.Ledger{}, postings)
	if posted != len(postings) || !sameLedger(l, w.Hub.Ledger) || !impl.Agrees(book, w.Hub.Ledger) || !wantAgrees(w.Hub.Book, w.Hub.Ledger) {
		t.Fatalf("behind %s: %d of %d are posted: %+v; the hub has %+v", behind, posted, len(postings), l, w.Hub.Ledger)
	}
}

// do does a step and holds what comes against P1 and P2.
func (x *worldLife) do(t *testing.T, s impl.Step) {
	t.Helper()
	was, keep := x.world, copyOfWorld(x.world)
	x.world = impl.Do(was, s)
	if !sameWorld(was, keep) || !impl.WorldOk(x.world) {
		t.Fatalf("behind %+v: the world is changed, or what comes isn't right: %+v", s, shortly(x.world))
	}
	name := []string{"", "take", "sync", "crash", "start", "turn"}[s.Kind]
	lookP1(t, name, x.world)
	for _, code := range x.world.Codes[len(was.Codes):] {
		x.seen["code "+impl.NumText(code)]++
	}
	x.look(t, name, was, s)
}

// look wants what a step does to Took, to Sent and to what is synced.
func (x *worldLife) look(t *testing.T, name string, was impl.World, s impl.Step) {
	t.Helper()
	now := x.world
	switch {
	case was.Up && s.Kind == impl.StSync:
		x.synced = len(now.Took)
		if !slices.Equal(now.Sent, now.Took) || !slices.Equal(now.Took, was.Took) {
			t.Fatalf("behind a sync: %+v", shortly(now))
		}
	case !was.Up && s.Kind == impl.StStart && now.Up:
		if !isBeginning(now.Took, was.Took, x.synced) || !slices.Equal(now.Sent, now.Took) || !isBeginning(was.Sent, now.Took, 0) {
			t.Fatalf("behind a start: taken were %v with %d synced, found is %v, sent %v", was.Took, x.synced, now.Took, now.Sent)
		}
		if len(now.Took) > x.synced && len(now.Took) < len(was.Took) {
			name += ", found some"
		}
		x.synced = len(now.Took)
	case !slices.Equal(now.Sent, was.Sent) || !isBeginning(was.Took, now.Took, 0):
		t.Fatalf("behind %s: %+v; was %+v", name, shortly(now), shortly(was))
	case !was.Up && (s.Kind != impl.StStart || !now.Up):
		if !sameWorld(was, now) {
			t.Fatalf("%s, not up: %+v; was %+v", name, shortly(now), shortly(was))
		}
		name += ", not up"
	}
	if now.Up && (len(now.Sent) != x.synced || !slices.Equal(now.Hub.Wait, now.Took[x.synced:])) {
		t.Fatalf("behind %s: %d are synced: %+v", name, x.synced, shortly(now))
	}
	x.seen[name]++
}

// anyStep is by chance, mostly such as can be done.
func (d *dice) anyStep(m mood, w impl.World, busyness int) impl.Step {
	switch n := d.below(busyness); {
	case !w.Up && n > 0:
		return starting
	case n == 0:
		return crashing(d.keep(len(w.Hub.Wait))...)
	case n == 1:
		return syncing
	case n == 2 && d.below(2) == 0:
		return turning(d.rule())
	case n == 3 && d.below(4) == 0:
		return starting
	}
	return taking(d.bookEvent(m, w.Hub.Book))
}

// beginning are the steps with which a life begins: a start, and something in two channels.
func beginning(m mood) []impl.Step {
	return append(steps(starting), takingAll(deposit(m.amt), impl.Event{Kind: impl.EvOpen, Ch: 1, Amt: m.amt / 2, Fee: m.amt / 3}, impl.Event{Kind: impl.EvOpen, Ch: 2, Amt: m.amt / 3})...)
}

// live does the beginning of a life and n steps by chance, each by do.
func live(t *testing.T, x *worldLife, do func(t *testing.T, s impl.Step), d *dice, m mood, n int, busyness int) {
	t.Helper()
	for _, s := range beginning(m) {
		do(t, s)
	}
	for range n {
		do(t, d.anyStep(m, x.world, busyness))
	}
}

// P1 and P2: plays of many steps on small disks, some with older runs on them; behind each step all is as it must be.
func TestP1WorldLives(t *testing.T) {
	d, seen := dice(124), map[string]int{}
	for i := range 150 {
		m, n := moods()[i%len(moods())], 2+d.below(50)
		w, _ := impl.WorldNew(n)
		if d.below(3) == 0 {
			w.Disk = olderRun(t, n+3, []int{1, 2, 255, 256, 65535}[d.below(5)])
		}
		x := worldLife{world: w, seen: seen}
		live(t, &x, x.do, &d, m, 90, 10)
	}
	for _, what := range []string{"code 0", "code 1", "code 15", "code 21", "code 22", "sync", "crash", "start", "start, found some", "turn", "crash, not up", "start, not up"} {
		if seen[what] < 20 {
			t.Errorf("%v: of %q too few", seen, what)
		}
	}
}

// P1 and P2: likewise, but each step against what the tests reckon of it.
func TestP1WorldLivesReckoned(t *testing.T) {
	d := dice(125)
	for i := range 60 {
		m := moods()[i%len(moods())]
		w, _ := impl.WorldNew(3 + d.below(30))
		for _, s := range beginning(m) {
			w = lookDo(t, "beginning", w, s)
		}
		for range 60 {
			w = lookDo(t, "a life", w, d.anyStep(m, w, 8))
			if t.Failed() {
				t.FailNow()
			}
		}
	}
}

// P1 and P2: on great disks; in the first nothing is synced until the disk is full.
func TestP1WorldLivesOnGreatDisks(t *testing.T) {
	d, seen := dice(126), map[string]int{}
	w, _ := impl.WorldNew(600)
	x := worldLife{world: w, seen: seen}
	x.do(t, starting)
	for seen["code 21"] == 0 {
		x.world = impl.Do(x.world, taking(tick))
		seen["code "+impl.NumText(x.world.Codes[len(x.world.Codes)-1])]++
	}
	lookP1(t, "many takes", x.world)
	if len(x.world.Took) != 599 || len(x.world.Hub.Wait) != 599 || len(x.world.Codes) != 600 {
		t.Errorf("%d are taken on a great disk", len(x.world.Took))
	}
	full := x
	for _, keep := range [][]int{nil, slices.Repeat([]int{128}, 300), append(slices.Repeat([]int{128}, 598), 127), append(slices.Repeat([]int{128}, 100), slices.Repeat([]int{127, 128}, 250)...)} {
		x := full
		for _, s := range steps(crashing(keep...), starting, taking(tick), syncing) {
			x.do(t, s)
		}
	}
	x.do(t, syncing)
	x.do(t, crashing())
	x.do(t, starting)
	if x.world.Up || len(x.world.Took) != 599 || len(x.world.Sent) != 599 {
		t.Errorf("a full disk is started: %+v", shortly(x.world))
	}
	for i := range 2 {
		w, _ := impl.WorldNew(600 - i)
		x := worldLife{world: w, seen: seen}
		live(t, &x, x.do, &d, moods()[i], 250, 30)
	}
	if seen["crash"] < 10 || seen["code 0"] < 700 {
		t.Errorf("%v: the test looks at too few", seen)
	}
}
