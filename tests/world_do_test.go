package tests

import (
	"slices"
	"testing"

	"loop.example/g00400/impl"
)

// A doing is a step and what it makes of a world, told as what changes of it.
type doing struct {
	name   string
	world  impl.World
	step   impl.Step
	change func(w *impl.World)
}

func stays(w *impl.World) {}

// lookDone holds Do against the told answer, and so the answer that the tests reckon themselves.
func lookDone(t *testing.T, cases ...doing) {
	t.Helper()
	for _, c := range cases {
		told := changedWorld(c.world, c.change)
		if got := lookDo(t, c.name, c.world, c.step); !sameWorld(got, told) {
			t.Errorf("%s: of %+v the tests reckon\n%+v; told is\n%+v", c.name, c.step, shortly(got), shortly(told))
		}
		if got := impl.Do(c.world, c.step); !sameWorld(got, told) || !impl.WorldOk(got) {
			t.Errorf("%s: Do of %+v makes\n%+v; want\n%+v", c.name, c.step, shortly(got), shortly(told))
		}
	}
}

// refusedWith has one code more.
func refusedWith(code int) func(w *impl.World) {
	return func(w *impl.World) { w.Codes = append(w.Codes, code) }
}

// took is what taking an event changes, if the world takes it: the hub becomes what is told.
func took(h impl.Hub, e impl.Event) func(w *impl.World) {
	return func(w *impl.World) {
		w.Hub, w.Took, w.Codes = h, append(w.Took, e), append(w.Codes, 0)
	}
}

// P13: a take, and each of several codes.
func TestP13DoTake(t *testing.T) {
	h := laidHub(12, textsOf(history)...)
	w := upWith(h)
	full, vast := upWith(laidHub(8, textsOf(history)...)), upWith(laidHub(12, textsOf(vastHistory)...))
	ticked, _ := wantHubTake(h, tick)
	paid, _ := wantHubTake(h, said("fulfill 7"))
	lookDone(t,
		doing{"a tick", w, taking(tick), took(ticked, tick)},
		doing{"a payment", w, taking(said("fulfill 7")), took(paid, said("fulfill 7"))},
		doing{"no event", w, taking(impl.Event{}), refusedWith(1)},
		doing{"a tick with a Key", w, taking(impl.Event{Kind: impl.EvTick, Key: 1}), refusedWith(1)},
		doing{"past the wallet", w, taking(deposit(top)), refusedWith(2)},
		doing{"the channel is there", w, taking(said("open 1 1 1")), refusedWith(3)},
		doing{"more than the wallet", w, taking(said("open 3 401 1")), refusedWith(4)},
		doing{"no such channel", w, taking(said("close 3 0")), refusedWith(6)},
		doing{"no such payment", w, taking(said("fail 9")), refusedWith(15)},
		doing{"full", full, taking(tick), refusedWith(21)},
		doing{"full, refused", full, taking(said("fail 9")), refusedWith(15)},
		doing{"doesn't go", vast, taking(deposit(1)), refusedWith(22)},
		doing{"what it doesn't ask about is something", w, impl.Step{Kind: impl.StTake, Event: tick, Keep: []int{-1, 128}, Rule: rule(9, 8, 7, 6, 5)}, took(ticked, tick)},
	)
	got := impl.Do(w, taking(tick))
	if len(got.Took) != 8 || got.Took[7] != tick || !slices.Equal(got.Hub.Wait, events(tick)) || !slices.Equal(got.Sent, w.Sent) || got.Hub.Book.Tick != 2 || !slices.Equal(got.Codes, codes(0, 15, 0)) {
		t.Errorf("a tick makes %+v", shortly(got))
	}
	if got := impl.Do(w, taking(deposit(top))); !sameHub(got.Hub, h) || len(got.Took) != 7 || !slices.Equal(got.Codes, codes(0, 15, 2)) {
		t.Errorf("what is refused makes %+v", shortly(got))
	}
}

// P13: a sync lets go what waits, behind what was let go before, whatever that is.
func TestP13DoSync(t *testing.T) {
	w := upWith(twiceOpened())
	all := w.Took
	synced := func(sent ...impl.Event) func(w *impl.World) {
		return func(w *impl.World) { w.Hub, w.Sent = wantHubSync(w.Hub), sent }
	}
	lookDone(t,
		doing{"two wait", w, syncing, synced(all[3:]...)},
		doing{"two wait, all was sent", changedWorld(w, func(w *impl.World) { w.Sent = w.Took[:5] }), syncing, synced(all...)},
		doing{"two wait, nothing was sent", changedWorld(w, func(w *impl.World) { w.Sent = nil }), syncing, synced(all[5:]...)},
		doing{"two wait, something else was sent", changedWorld(w, func(w *impl.World) { w.Sent = events(deposit(-5)) }), syncing, synced(deposit(-5), all[5], all[6])},
		doing{"nothing waits", upWith(laidHub(12, textsOf(history)...)), syncing, synced(saidAll(textsOf(history)...)...)},
		doing{"all waits", upWith(waitingHub(12, textsOf(history)...)), syncing, synced(saidAll(textsOf(history)...)...)},
		doing{"just opened", upWith(laidHub(4)), syncing, stays},
		doing{"nobody opened it", upWith(freshHub(4)), syncing, stays},
		doing{"what it doesn't ask about is something", w, impl.Step{Kind: impl.StSync, Event: deposit(5), Keep: []int{-1}, Rule: rule(9, 8, 7, 6, 5)}, synced(all[3:]...)},
	)
	got := impl.Do(w, syncing)
	if len(got.Hub.Wait) > 0 || len(got.Hub.Log.Disk.Dirty) > 0 || !slices.Equal(got.Hub.Sent, all[3:]) || !slices.Equal(got.Took, all) || !slices.Equal(got.Codes, codes(0, 15)) {
		t.Errorf("a sync makes %+v", shortly(got))
	}
}

// P13: a crash leaves the disk of what came, and Took, Sent and Codes as they are.
func TestP13DoCrash(t *testing.T) {
	w := upWith(twiceOpened())
	crashed := func(keep ...int) func(w *impl.World) {
		return func(w *impl.World) {
			w.Up, w.Disk, w.Hub = false, wantCrash(w.Hub.Log.Disk, keep), impl.Hub{}
		}
	}
	for _, keep := range append(keeps(w.Hub.Log.Disk), someKeeps()...) {
		lookDone(t, doing{"a crash", w, crashing(keep...), crashed(keep...)})
	}
	lookDone(t,
		doing{"nothing waits", upWith(laidHub(12, textsOf(history)...)), crashing(1, 2, 3), crashed()},
		doing{"nobody opened it", upWith(freshHub(4)), crashing(), crashed()},
		doing{"what it doesn't ask about is something", w, impl.Step{Kind: impl.StCrash, Event: deposit(5), Keep: []int{128}, Rule: rule(9, 8, 7, 6, 5)}, crashed(128)},
	)
	got := impl.Do(w, crashing(128))
	if got.Up || len(got.Disk.Cells) != 12 || len(got.Disk.Dirty) > 0 || len(got.Took) != 7 || len(got.Sent) != 2 || len(got.Codes) != 2 || !slices.Equal(impl.LogEvents(got.Disk), w.Took[:6]) {
		t.Errorf("a crash makes %+v", shortly(got))
	}
}

// P13: a start tells in Took and in Sent what is found, whatever stood there; Codes stays.
func TestP13DoStart(t *testing.T) {
	w := changedWorld(downWith(rowDisk(9, textsOf(history)...)), func(w *impl.World) {
		w.Took, w.Sent, w.Codes = events(deposit(5), tick), events(deposit(7)), codes(0, 9)
	})
	started := func(w *impl.World) {
		h, code := wantHubOpen(w.Disk)
		if code != 0 {
			panic("the tests' disk isn't opened")
		}
		found := wantLogEvents(w.Disk)
		w.Up, w.Hub, w.Disk, w.Took, w.Sent = true, h, impl.Disk{}, found, slices.Clone(found)
	}
	late := func(d impl.Disk) impl.Disk { return with(d, len(d.Cells)-1, mark(len(d.Cells)-1, 16000000)) }
	lookDone(t,
		doing{"a history", w, starting, started},
		doing{"new", downWith(laid(4)), starting, started},
		doing{"new, one cell", downWith(laid(1)), starting, started},
		doing{"new, but something stood there", rubbish(downWith(laid(4))), starting, started},
		doing{"an older run behind", downWith(olderRun(t, 9, 3)), starting, started},
		doing{"full", downWith(rowDisk(8, textsOf(history)...)), starting, stays},
		doing{"full, one cell", rubbish(downWith(laid(1, mark(0, 1)))), starting, stays},
		doing{"MaxEpoch", downWith(late(rowDisk(9, "tick"))), starting, stays},
		doing{"an event is refused", downWith(rowDisk(9, "tick", "fulfill 7")), starting, stays},
		doing{"a posting doesn't go", rubbish(downWith(rowDisk(9, append(textsOf(vastHistory), "deposit 1")...))), starting, stays},
		doing{"what it doesn't ask about is something", w, impl.Step{Kind: impl.StStart, Event: deposit(5), Keep: []int{1}, Rule: rule(9, 8, 7, 6, 5)}, started},
	)
	got := impl.Do(w, starting)
	if !got.Up || len(got.Disk.Cells) > 0 || got.Hub.Log.Epoch != 2 || got.Hub.Log.Next != 9 || len(got.Took) != 7 || !slices.Equal(got.Sent, saidAll(textsOf(history)...)) || !slices.Equal(got.Codes, codes(0, 9)) || len(got.Hub.Sent)+len(got.Hub.Wait) > 0 {
		t.Errorf("a start makes %+v", shortly(got))
	}
}

// turnedBy is what takes of these texts change, all with those codes.
func turnedBy(said ...string) func(w *impl.World) {
	return func(w *impl.World) {
		for _, e := range saidAll(said...) {
			*w = wantTake(*w, e)
		}
	}
}

// P13: a turn takes each event that Turns tells of the book as it was, those that are refused too.
func TestP13DoTurn(t *testing.T) {
	w := upWith(laidHub(20, "deposit 1000", "open 2 100 900", "open 5 500 500", "open 7 300 0", "price 7 9 50"))
	plain := rule(30, 70, 10, 5, 100)
	nearly := upWith(laidHub(7, "deposit 1000", "open 2 100 900", "open 5 100 900", "open 7 100 900", "price 7 9 50"))
	full := upWith(laidHub(5, "deposit 1000", "open 2 100 900", "open 5 100 900", "price 5 9 50"))
	lookDone(t,
		doing{"three turn", w, turning(plain), turnedBy("price 2 0 10", "price 5 0 5", "price 7 9 40")},
		doing{"one turns", w, turning(rule(0, 70, 10, 0, 100)), turnedBy("price 7 9 40")},
		doing{"none turns", w, turning(rule(0, 100, 10, 0, 100)), stays},
		doing{"a rule that isn't right", w, turning(rule(70, 30, 10, 5, 100)), stays},
		doing{"a rule whose Max is below", w, turning(rule(30, 70, 10, 5, 4)), stays},
		doing{"a rule of nothing", w, turning(impl.Rule{}), turnedBy("price 7 9 0")},
		doing{"no channels", upWith(laidHub(4)), turning(plain), stays},
		doing{"nobody opened it", upWith(freshHub(4)), turning(plain), stays},
		doing{"a cell for two of three", nearly, turning(plain), turnedBy("price 2 0 10", "price 5 0 10", "price 7 9 60")},
		doing{"no cell", full, turning(plain), turnedBy("price 2 0 10", "price 5 9 60")},
		doing{"what it doesn't ask about is something", w, impl.Step{Kind: impl.StTurn, Event: deposit(5), Keep: []int{1}, Rule: plain}, turnedBy("price 2 0 10", "price 5 0 5", "price 7 9 40")},
	)
	got := impl.Do(w, turning(plain))
	if !slices.Equal(got.Codes, codes(0, 15, 0, 0, 0)) || len(got.Took) != 8 || len(got.Hub.Wait) != 3 || len(got.Sent) != 5 || got.Hub.Book.Chans[0].Ppm != 10 {
		t.Errorf("a turn makes %+v", shortly(got))
	}
	if got := impl.Do(nearly, turning(plain)); !slices.Equal(got.Codes, codes(0, 15, 0, 21, 21)) || len(got.Took) != 6 {
		t.Errorf("where one cell is left a turn makes %+v", shortly(got))
	}
}

// P13: a turn by twenty channels, on a disk that has a cell for all of them and on one that hasn't.
func TestP13DoTurnOfMany(t *testing.T) {
	texts := []string{"deposit 1000000"}
	for i := range 20 {
		texts = append(texts, "open "+impl.NumText(1+5*i)+" "+impl.NumText(10*i)+" 100")
	}
	texts[1] = "open 1 1 100"
	for _, cells := range []int{22, 23, 30, 41, 42, 43} {
		w := upWith(laidHub(cells, texts...))
		for _, r := range []impl.Rule{rule(30, 60, 7, 0, 100), rule(100, 100, 1000000, 3, 1000000), rule(0, 0, 1, 0, 0), rule(50, 50, 0, 3, 3)} {
			got := lookDo(t, "many channels", w, turning(r))
			told := wantTurns(w.Hub.Book, r)
			if done := len(got.Took) - len(w.Took); len(got.Codes)-len(w.Codes) != len(told) || done != min(len(told), cells-22) {
				t.Errorf("%d cells: of %d turns %d are taken", cells, len(told), done)
			}
		}
	}
}

// P13: what can't be done leaves the world as it is, and so does every other Kind.
func TestP13DoStays(t *testing.T) {
	up, down := upWith(twiceOpened()), changedWorld(downWith(rowDisk(9, textsOf(history)...)), func(w *impl.World) {
		w.Took, w.Sent, w.Codes = saidAll(textsOf(history)...), events(tick), codes(4, 0)
	})
	r := rule(30, 70, 10, 5, 100)
	lookDone(t,
		doing{"a take", down, taking(tick), stays},
		doing{"a take of no event", down, taking(impl.Event{}), stays},
		doing{"a turn", down, turning(r), stays},
		doing{"a sync", down, syncing, stays},
		doing{"a crash", down, crashing(), stays},
		doing{"a crash that keeps", down, crashing(128, 5), stays},
		doing{"a start", up, starting, stays},
	)
	for _, kind := range []int{leastInt, -5, -4, -1, 0, 6, 7, 9, 257, 260, 1 << 32, 1<<32 + 1, 1<<32 + 4, greatestInt} {
		for _, w := range []impl.World{up, down, downWith(laid(1)), upWith(laidHub(1)), upWith(freshHub(3))} {
			lookDone(t,
				doing{"another Kind", w, impl.Step{Kind: kind}, stays},
				doing{"another Kind with all fields", w, impl.Step{Kind: kind, Event: tick, Keep: []int{128, 128}, Rule: r}, stays},
			)
		}
	}
}

// P13: by a hub of another Epoch the first event is taken as chapter 12 says, and what comes isn't right; of a turn the others have code 20 then.
func TestP13DoOfAnotherEpoch(t *testing.T) {
	w := upWith(laidHub(20, "deposit 1000", "open 2 100 900", "open 5 500 500"))
	w.Hub.Log.Disk = with(w.Hub.Log.Disk, 3, eventSector(3, 7, w.Took[2]))
	w.Hub.Log.Epoch = 6
	got := lookDo(t, "a turn", w, turning(rule(60, 70, 10, 5, 100)))
	if !impl.WorldOk(w) || impl.WorldOk(got) || !slices.Equal(got.Codes, codes(0, 15, 0, 20)) || len(got.Took) != 4 {
		t.Errorf("a turn makes %+v", shortly(got))
	}
	one := lookDo(t, "a take", w, taking(tick))
	if impl.WorldOk(one) || !sameWorld(impl.Do(one, syncing), impl.World{}) || !sameWorld(impl.Play(w, steps(taking(tick), syncing)), impl.World{}) {
		t.Errorf("a take makes %+v", shortly(one))
	}
}
