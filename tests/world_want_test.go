package tests

import (
	"slices"
	"testing"

	"loop.example/g00400/impl"
)

// What the chapter says of the world, by itself.

func wantWorldOk(w impl.World) bool {
	if w.Up {
		return sameDisk(w.Disk, impl.Disk{}) && wantHubOk(w.Hub) && slices.Equal(w.Took, wantLogEvents(w.Hub.Log.Disk))
	}
	return sameHub(w.Hub, impl.Hub{}) && wantDiskOk(w.Disk) && len(w.Disk.Dirty) == 0
}

// wantTake is what one event makes of a world that is up.
func wantTake(w impl.World, e impl.Event) impl.World {
	h, code := wantHubTake(w.Hub, e)
	w.Codes = slices.Concat(w.Codes, codes(code))
	if code == 0 {
		w.Hub, w.Took = h, slices.Concat(w.Took, events(e))
	}
	return w
}

func wantDo(w impl.World, s impl.Step) impl.World {
	if !wantWorldOk(w) {
		return impl.World{}
	}
	w = copyOfWorld(w)
	switch {
	case !w.Up && s.Kind == 4:
		if h, code := wantHubOpen(w.Disk); code == 0 {
			found := wantLogEvents(h.Log.Disk)
			return impl.World{Up: true, Hub: h, Took: found, Sent: found, Codes: w.Codes}
		}
	case !w.Up:
	case s.Kind == 1:
		return wantTake(w, s.Event)
	case s.Kind == 2:
		w.Sent, w.Hub = slices.Concat(w.Sent, w.Hub.Wait), wantHubSync(w.Hub)
	case s.Kind == 3:
		return impl.World{Disk: wantHubCrash(w.Hub, s.Keep), Took: w.Took, Sent: w.Sent, Codes: w.Codes}
	case s.Kind == 5:
		for _, e := range wantTurns(w.Hub.Book, s.Rule) {
			w = wantTake(w, e)
		}
	}
	return w
}

// lookDo holds Do against what the tests reckon, twice, and looks that it keeps its hands off the world and the step. It tells what comes.
func lookDo(t *testing.T, name string, w impl.World, s impl.Step) impl.World {
	t.Helper()
	want := wantDo(w, s)
	given, keep := roomyWorld(w), withSpare(s.Keep, -7)
	s.Keep = keep
	for range 2 {
		got := impl.Do(given, s)
		if !sameWorld(got, want) {
			t.Errorf("%s: Do of %+v makes of %+v\n%+v; want\n%+v", name, s, shortly(w), shortly(got), shortly(want))
		}
		blotWorld(got)
		if !sameWorld(allOfWorld(given), allOfWorld(roomyWorld(w))) || !slices.Equal(keep[:cap(keep)], append(slices.Clone(keep), -7, -7, -7)[:cap(keep)]) {
			t.Fatalf("%s: Do of %+v changes or shares what it was given: %+v", name, s, shortly(w))
		}
	}
	return want
}

// lookWorld holds WorldOk and Do of these steps against what the tests reckon, and tells whether the world is right.
func lookWorld(t *testing.T, name string, w impl.World, l ...impl.Step) bool {
	t.Helper()
	given, right := roomyWorld(w), wantWorldOk(w)
	for range 2 {
		if got := impl.WorldOk(given); got != right {
			t.Errorf("%s: WorldOk is %v of %+v", name, got, shortly(w))
		}
	}
	if !sameWorld(allOfWorld(given), allOfWorld(roomyWorld(w))) {
		t.Fatalf("%s: WorldOk changes the world", name)
	}
	for _, s := range l {
		lookDo(t, name, w, s)
	}
	return right
}
