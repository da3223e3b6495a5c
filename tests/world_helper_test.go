package tests

import (
	"slices"

	"loop.example/g00400/impl"
)

// The fields that the chapter gives a step and a world, and no other: without them this isn't built.
var _ = struct {
	Kind  int
	Event impl.Event
	Keep  []int
	Rule  impl.Rule
}(impl.Step{})

var _ = struct {
	Up    bool
	Hub   impl.Hub
	Disk  impl.Disk
	Took  []impl.Event
	Sent  []impl.Event
	Codes []int
}(impl.World{})

var (
	syncing  = impl.Step{Kind: impl.StSync}
	starting = impl.Step{Kind: impl.StStart}
)

func taking(e impl.Event) impl.Step { return impl.Step{Kind: impl.StTake, Event: e} }

func crashing(keep ...int) impl.Step { return impl.Step{Kind: impl.StCrash, Keep: keep} }

func turning(r impl.Rule) impl.Step { return impl.Step{Kind: impl.StTurn, Rule: r} }

func steps(l ...impl.Step) []impl.Step { return l }

// takingAll takes the events one after the other.
func takingAll(es ...impl.Event) []impl.Step {
	var l []impl.Step
	for _, e := range es {
		l = append(l, taking(e))
	}
	return l
}

func sameStep(a impl.Step, b impl.Step) bool {
	return a.Kind == b.Kind && a.Event == b.Event && slices.Equal(a.Keep, b.Keep) && a.Rule == b.Rule
}

func sameSteps(a []impl.Step, b []impl.Step) bool { return slices.EqualFunc(a, b, sameStep) }

func copyOfStep(s impl.Step) impl.Step {
	s.Keep = slices.Clone(s.Keep)
	return s
}

// changedStep is s with one thing changed.
func changedStep(s impl.Step, change func(s *impl.Step)) impl.Step {
	s = copyOfStep(s)
	change(&s)
	return s
}

func sameWorld(a impl.World, b impl.World) bool {
	return a.Up == b.Up && sameHub(a.Hub, b.Hub) && sameDisk(a.Disk, b.Disk) &&
		slices.Equal(a.Took, b.Took) && slices.Equal(a.Sent, b.Sent) && slices.Equal(a.Codes, b.Codes)
}

func copyOfWorld(w impl.World) impl.World {
	w.Hub, w.Disk = copyOfHub(w.Hub), copyOfDisk(w.Disk)
	w.Took, w.Sent, w.Codes = slices.Clone(w.Took), slices.Clone(w.Sent), slices.Clone(w.Codes)
	return w
}

// changedWorld is w with one thing changed.
func changedWorld(w impl.World, change func(w *impl.World)) impl.World {
	w = copyOfWorld(w)
	change(&w)
	return w
}

// roomyWorld is w with spare room behind each of its lists, in which something stands.
func roomyWorld(w impl.World) impl.World {
	return impl.World{Up: w.Up, Hub: roomyHub(w.Hub), Disk: roomyDisk(w.Disk),
		Took: withSpare(w.Took, spareEvent), Sent: withSpare(w.Sent, spareEvent), Codes: withSpare(w.Codes, -7)}
}

// allOfWorld is w with the spare room counted in.
func allOfWorld(w impl.World) impl.World {
	return impl.World{Up: w.Up, Hub: allOfHub(w.Hub), Disk: allOfDisk(w.Disk),
		Took: w.Took[:cap(w.Took)], Sent: w.Sent[:cap(w.Sent)], Codes: w.Codes[:cap(w.Codes)]}
}

// blotWorld writes over the whole of a world, spare room too.
func blotWorld(w impl.World) {
	blotHub(w.Hub)
	blotDisk(w.Disk)
	blotList(w.Took, impl.Event{Kind: -3})
	blotList(w.Sent, impl.Event{Kind: -3})
	blotList(w.Codes, -3)
}

// worldApart tells whether each list of w is alone in its memory: in what is written over it another one can't be found. It spoils w.
func worldApart(w impl.World) bool {
	apart := true
	look := func(spoil func() bool, without func(w *impl.World)) {
		was := copyOfWorld(w)
		apart = spoil() && sameWorld(changedWorld(w, without), changedWorld(was, without)) && apart
	}
	spoilt := func(blotOne func()) func() bool {
		return func() bool { blotOne(); return true }
	}
	look(spoilt(func() { blotList(w.Took, impl.Event{Kind: -4}) }), func(w *impl.World) { w.Took = nil })
	look(spoilt(func() { blotList(w.Sent, impl.Event{Kind: -4}) }), func(w *impl.World) { w.Sent = nil })
	look(spoilt(func() { blotList(w.Codes, -4) }), func(w *impl.World) { w.Codes = nil })
	look(func() bool { return looksApart(w.Disk) }, func(w *impl.World) { w.Disk = impl.Disk{} })
	look(spoilt(func() { blotDisk(w.Disk) }), func(w *impl.World) { w.Disk = impl.Disk{} })
	look(func() bool { return hubApart(w.Hub) }, func(w *impl.World) { w.Hub = impl.Hub{} })
	return apart
}

// A worldBrief is what is worth telling of a world: disks are long.
type worldBrief struct {
	up           bool
	hub          brief
	cells, dirty int
	took, sent   []impl.Event
	codes        []int
}

func shortly(w impl.World) worldBrief {
	return worldBrief{w.Up, briefly(w.Hub), len(w.Disk.Cells), len(w.Disk.Dirty), w.Took, w.Sent, w.Codes}
}
