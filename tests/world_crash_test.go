package tests

import (
	"slices"
	"testing"

	"loop.example/g00400/impl"
)

// lookStarted holds a start behind a crash against P2: a beginning of what was taken is found, with all that was synced; a crash and a start more find the same.
func lookStarted(t *testing.T, w impl.World, synced int, keep []int) impl.World {
	t.Helper()
	down := impl.Do(w, crashing(keep...))
	if down.Up || !slices.Equal(down.Took, w.Took) || !slices.Equal(down.Sent, w.Sent) || !impl.WorldOk(down) {
		t.Fatalf("crashed with %v: %+v", keep, shortly(down))
	}
	up := impl.Do(down, starting)
	came := synced + cameWhole(w.Hub.Log.Disk, down.Disk)
	if !up.Up || !isBeginning(up.Took, w.Took, synced) || len(up.Took) != came || !slices.Equal(up.Sent, up.Took) {
		t.Fatalf("%d synced of %v, crashed with %v: started is %+v, but %d came", synced, w.Took, keep, shortly(up), came)
	}
	lookP1(t, "a start", up)
	for _, more := range [][]int{nil, {0}, {128, 128}} {
		again := impl.Play(up, steps(crashing(more...), starting))
		if !again.Up || !slices.Equal(again.Took, up.Took) || !slices.Equal(again.Sent, up.Took) || !sameBook(again.Hub.Book, up.Hub.Book) || !sameLedger(again.Hub.Ledger, up.Hub.Ledger) {
			t.Fatalf("%d synced, crashed with %v, and with %v more: %+v; want %+v", synced, keep, more, shortly(again), shortly(up))
		}
	}
	return up
}

// P2: whatever each crash keeps of up to three events that wait, on a new disk and over what older runs left there.
func TestP2WorldEachCrash(t *testing.T) {
	numbers, row := []int{-1, 0, 1, 7, 64, 126, 127, 128, 129}, hubRow()
	for name, base := range oldDisks(t, 20) {
		t.Run(name, func(t *testing.T) {
			for synced := range 4 {
				for count := range 4 {
					l := append(steps(starting), takingAll(row[:synced]...)...)
					l = append(append(l, syncing), takingAll(row[synced:synced+count]...)...)
					w := impl.Play(downWith(base), l)
					if !slices.Equal(w.Sent, row[:synced]) || !slices.Equal(w.Took, row[:synced+count]) {
						t.Fatalf("%d synced, %d wait: %+v", synced, count, shortly(w))
					}
					for _, keep := range crashKeeps(count, numbers) {
						lookStarted(t, w, synced, keep)
					}
				}
			}
		})
	}
}

// P2: Sent changes at a sync and at a start alone; ahead of a sync it has nothing of what was taken since the start.
func TestP2WorldLetsGoBehindASync(t *testing.T) {
	row := hubRow()
	for each := 1; each <= len(row)+1; each++ {
		for found := range 4 {
			w := impl.Play(downWith(laid(40)), append(steps(starting), takingAll(row[:found]...)...))
			w = impl.Play(w, steps(crashing(slices.Repeat([]int{128}, found)...), starting))
			safe := found
			for i, e := range row[found:] {
				w = impl.Do(w, taking(e))
				w = impl.Play(w, steps(taking(impl.Event{}), starting, turning(rule(0, 100, 0, 0, 1000000))))
				if !slices.Equal(w.Took, row[:found+i+1]) || !slices.Equal(w.Sent, row[:safe]) {
					t.Fatalf("%d found, a sync each %d: behind %+v %+v", found, each, e, shortly(w))
				}
				lookStarted(t, w, safe, []int{127, 128})
				if i%each == each-1 {
					w, safe = impl.Do(w, syncing), found+i+1
				}
				if !slices.Equal(w.Sent, row[:safe]) || !sameWorld(impl.Do(w, syncing), impl.Play(w, steps(syncing, syncing))) {
					t.Fatalf("%d found, a sync each %d: %+v", found, each, shortly(w))
				}
			}
		}
	}
}

// P2: what a start lets go, though no sync did, no later crash takes away.
func TestP2WorldFoundStays(t *testing.T) {
	row := hubRow()
	for came := range row {
		w := impl.Play(downWith(laid(60)), append(steps(starting), takingAll(row...)...))
		if len(w.Sent) > 0 {
			t.Fatalf("ahead of a sync: %+v", shortly(w))
		}
		keep := append(slices.Repeat([]int{128}, came), 127, 128, 128)
		for range 5 {
			w = impl.Play(w, steps(crashing(keep...), starting))
			if !slices.Equal(w.Took, row[:came]) || !slices.Equal(w.Sent, row[:came]) {
				t.Fatalf("%d came: %+v", came, shortly(w))
			}
			w = impl.Play(w, takingAll(deposit(7), tick))
			if !slices.Equal(w.Sent, row[:came]) || len(w.Took) != came+2 {
				t.Fatalf("%d came, two more: %+v", came, shortly(w))
			}
			keep = []int{64, 128, 128}
		}
	}
}

// P2: a crash loses what it loses for ever, however often there is one, until no cell is left; then the world stays down.
func TestP2WorldLostNeverComesBack(t *testing.T) {
	for _, keep := range [][]int{nil, {0, 128, 128, 128}, {127, 128, 128, 128}, {1, 128, 128}, {64, 127, 126, 128}} {
		w := impl.Do(downWith(olderRun(t, 40, 1)), starting)
		var let []impl.Event
		for i := 0; w.Up; i++ {
			was := w
			w = impl.Play(w, append(append(takingAll(deposit(1+i)), syncing), takingAll(deposit(2000), deposit(2001), tick, deposit(2002))...))
			if len(w.Took) > len(was.Took) {
				let = append(let, deposit(1+i))
			}
			w = impl.Do(w, crashing(keep...))
			if !slices.Equal(w.Sent, let) {
				t.Fatalf("with %v kept each time: sent are %v; want %v", keep, w.Sent, let)
			}
			if w = impl.Do(w, starting); w.Up && !slices.Equal(w.Took, let) {
				t.Fatalf("with %v kept each time: %v; want %v", keep, w.Took, let)
			}
		}
		if len(let) < 15 || !sameWorld(impl.Play(w, steps(starting, taking(tick), syncing, crashing(128), turning(impl.Rule{}), starting)), w) {
			t.Errorf("with %v kept each time the world that is full is %+v", keep, shortly(w))
		}
	}
}
