package tests

import (
	"slices"
	"testing"

	"loop.example/g00400/impl"
)

// sharedWorld is a right world that is up, whose own lists share memory with each other and with the hub's.
func sharedWorld() impl.World {
	h := sharedHub()
	all := append(make([]impl.Event, 0, 40), saidAll(textsOf(history)...)...)
	h.Sent, h.Wait = all[3:5], all[5:7]
	numbers := append(make([]int, 0, 20), 0, 0, 15)
	return impl.World{Up: true, Hub: h, Took: all, Sent: all[:5], Codes: numbers}
}

// sharedDown is not up; its lists share memory, and so do the cells of its disk.
func sharedDown() impl.World {
	d := rowDisk(12, textsOf(history)...)
	d.Cells[10], d.Cells[11] = d.Cells[3], d.Cells[3]
	all := append(make([]impl.Event, 0, 40), saidAll(textsOf(history)...)...)
	return impl.World{Disk: d, Took: all, Sent: all[:3], Codes: append(make([]int, 0, 20), 0, 4)}
}

// stepsOfAll are steps of each Kind, such as can be done while up and while not, and such as can't.
func stepsOfAll() map[string]impl.Step {
	return map[string]impl.Step{
		"a take":             taking(tick),
		"a take that posts":  taking(said("fulfill 7")),
		"a take refused":     taking(said("fulfill 9")),
		"a take of no event": taking(impl.Event{}),
		"a turn":             turning(rule(60, 70, 10, 5, 100)),
		"a turn of nothing":  turning(rule(0, 100, 10, 0, 1000000)),
		"a wrong turn":       turning(rule(9, 8, 10, 5, 100)),
		"a sync":             syncing,
		"a crash":            crashing(128, 128, 5),
		"a crash of all":     crashing(),
		"a start":            starting,
		"another Kind":       {Kind: 6, Keep: []int{5}},
	}
}

// P13: every answer is new memory, and no two lists of it share any, whatever the argument's lists share.
func TestP13WorldNewMemory(t *testing.T) {
	for which, made := range map[string]func() impl.World{
		"shared":       sharedWorld,
		"shared, down": sharedDown,
		"roomy":        func() impl.World { return roomyWorld(upWith(twiceOpened())) },
		"roomy, down":  func() impl.World { return roomyWorld(sharedDown()) },
		"waits":        func() impl.World { return upWith(waitingHub(12, textsOf(history)...)) },
		"full":         func() impl.World { return upWith(laidHub(8, textsOf(history)...)) },
		"full, down":   func() impl.World { return downWith(rowDisk(8, textsOf(history)...)) },
	} {
		for name, s := range stepsOfAll() {
			for _, of := range []func(w impl.World) impl.World{
				func(w impl.World) impl.World { return impl.Do(w, s) },
				func(w impl.World) impl.World { return impl.Play(w, steps(s)) },
				func(w impl.World) impl.World { return impl.Play(w, steps(s, s, starting)) },
				func(w impl.World) impl.World { return impl.Play(w, nil) },
			} {
				lookFresh(t, which+", "+name, made, of)
			}
		}
	}
}

// lookFresh looks that what is made of a world, which must be something, is memory of its own.
func lookFresh(t *testing.T, name string, made func() impl.World, of func(w impl.World) impl.World) {
	t.Helper()
	w := made()
	got := of(w)
	if sameWorld(got, impl.World{}) {
		t.Errorf("%s: nothing is answered", name)
	}
	keep := copyOfWorld(got)
	if !worldApart(of(w)) {
		t.Errorf("%s: two lists of the answer share memory", name)
	}
	blotWorld(of(w))
	if !sameWorld(allOfWorld(w), allOfWorld(made())) {
		t.Errorf("%s: the world changes with the answer", name)
	}
	blotWorld(w)
	if !sameWorld(got, keep) {
		t.Errorf("%s: the answer changes with the world", name)
	}
}

// P13: two worlds that are made of one don't come into one another.
func TestP13WorldsApart(t *testing.T) {
	w := sharedWorld()
	one, two := impl.Do(w, taking(deposit(1))), impl.Do(w, taking(tick))
	one, two = impl.Do(one, syncing), impl.Do(two, taking(said("fail 9")))
	all := saidAll(textsOf(history)...)
	if !slices.Equal(one.Took, append(slices.Clone(all), deposit(1))) || !slices.Equal(one.Sent, slices.Concat(all[:5], all[5:], events(deposit(1)))) || !slices.Equal(one.Codes, codes(0, 0, 15, 0)) {
		t.Errorf("the first has %+v", shortly(one))
	}
	if !slices.Equal(two.Took, append(slices.Clone(all), tick)) || !slices.Equal(two.Sent, all[:5]) || !slices.Equal(two.Codes, codes(0, 0, 15, 0, 15)) {
		t.Errorf("the second has %+v", shortly(two))
	}
	if !impl.WorldOk(one) || !impl.WorldOk(two) || !sameWorld(allOfWorld(w), allOfWorld(sharedWorld())) {
		t.Error("the one of which they are made is changed, or what comes isn't right")
	}
}

// P13: no step is changed, nor kept.
func TestP13StepsKept(t *testing.T) {
	keep := withSpare([]int{128, 5, 127}, -7)
	l := withSpare(steps(taking(tick), crashing(keep...), starting, turning(rule(60, 70, 10, 5, 100)), syncing), crashing(-7))
	was := []impl.Step{}
	for _, s := range l[:cap(l)] {
		was = append(was, copyOfStep(s))
	}
	for _, w := range []impl.World{upWith(twiceOpened()), downWith(rowDisk(20, textsOf(history)...)), {}} {
		got := impl.Play(w, l)
		again := copyOfWorld(got)
		if !sameSteps(l[:cap(l)], was) || !slices.Equal(keep[:cap(keep)][:6], []int{128, 5, 127, -7, -7, -7}) {
			t.Errorf("Play changes the steps: %+v", l)
		}
		blotWorld(got)
		if !sameSteps(l[:cap(l)], was) || !sameWorld(impl.Play(w, l), again) {
			t.Errorf("what Play answers shares memory with the steps: %+v", l)
		}
	}
}

// P13: lists that are nil and lists that are empty make the same.
func TestP13WorldOfEmptyLists(t *testing.T) {
	notNilWorld := func(w impl.World) impl.World {
		w = changedWorld(w, func(w *impl.World) { notNil(&w.Hub) })
		w.Disk.Cells, w.Disk.Dirty = append([]impl.Cell{}, w.Disk.Cells...), append([]impl.Write{}, w.Disk.Dirty...)
		w.Took, w.Sent, w.Codes = append(events(), w.Took...), append(events(), w.Sent...), append(codes(), w.Codes...)
		return w
	}
	for name, w := range map[string]impl.World{
		"nothing": {}, "nothing, up": {Up: true}, "new": downWith(laid(4)), "nobody opened it": {Up: true, Hub: freshHub(4)}, "just opened": {Up: true, Hub: laidHub(4)},
	} {
		other := notNilWorld(w)
		if impl.WorldOk(w) != impl.WorldOk(other) {
			t.Errorf("%s: WorldOk is %v and %v", name, impl.WorldOk(w), impl.WorldOk(other))
		}
		for _, s := range stepsOfAll() {
			if s.Keep == nil {
				empty := s
				empty.Keep = []int{}
				if !sameWorld(impl.Do(w, s), impl.Do(other, empty)) {
					t.Errorf("%s: Do of %+v isn't the same", name, s)
				}
			}
		}
		if !sameWorld(impl.Play(w, nil), impl.Play(other, steps())) || !sameWorld(impl.Play(w, nil), w) {
			t.Errorf("%s: Play of nothing isn't the same", name)
		}
	}
}
