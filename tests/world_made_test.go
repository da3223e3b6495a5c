package tests

import (
	"slices"

	"loop.example/g00400/impl"
)

// upWith is up with the hub; all that its log tells was taken, and what it has sent was sent.
func upWith(h impl.Hub) impl.World {
	return impl.World{Up: true, Hub: h, Took: wantLogEvents(h.Log.Disk), Sent: slices.Clone(h.Sent), Codes: codes(0, 15)}
}

// downWith is not up, with the disk.
func downWith(d impl.Disk) impl.World { return impl.World{Disk: d} }

// rubbish is something in the lists that nobody asks about.
func rubbish(w impl.World) impl.World {
	w.Sent, w.Codes = events(deposit(-5), impl.Event{Kind: 77}), codes(-1, 99, leastInt)
	return w
}

// rightWorlds are right, each at some edge of the chapter.
func rightWorlds() map[string]impl.World {
	right := map[string]impl.World{
		"down, took and sent":     {Disk: laid(4), Took: events(tick, deposit(5)), Sent: events(tick), Codes: codes(0, 0, 15)},
		"down, took no events":    {Disk: laid(4), Took: events(impl.Event{}, impl.Event{Kind: -1})},
		"down, sent more":         {Disk: laid(4), Sent: events(tick)},
		"down, rubbish":           rubbish(downWith(laid(4))),
		"down, lists not nil":     {Hub: impl.Hub{Log: impl.Log{Disk: impl.Disk{Cells: []impl.Cell{}, Dirty: []impl.Write{}}}}, Disk: impl.Disk{Cells: make([]impl.Cell, 1), Dirty: []impl.Write{}}, Took: events(), Sent: events(), Codes: codes()},
		"down, full":              downWith(fullLog(7, 1)),
		"down, refused":           downWith(rowDisk(9, "tick", "fulfill 7")),
		"down, MaxEpoch":          downWith(with(rowDisk(9, "tick"), 8, mark(8, 16000000))),
		"down, a history":         downWith(rowDisk(9, textsOf(history)...)),
		"down, one cell left":     downWith(rowDisk(9, textsOf(history)...)),
		"up, rubbish":             rubbish(upWith(twiceOpened())),
		"up, nothing sent":        {Up: true, Hub: twiceOpened(), Took: wantLogEvents(twiceOpened().Log.Disk)},
		"up, a Disk that's empty": changedWorld(upWith(twiceOpened()), func(w *impl.World) { w.Disk = impl.Disk{Cells: []impl.Cell{}, Dirty: []impl.Write{}} }),
	}
	for name, d := range allDisks() {
		if len(d.Dirty) == 0 {
			right["down, "+name] = downWith(d)
		}
	}
	for name, h := range rightHubs() {
		right["up, "+name] = upWith(h)
	}
	return right
}

// wrongWorlds are wrong in one thing each, but for that they are right.
func wrongWorlds() map[string]impl.World {
	up, down := upWith(twiceOpened()), downWith(rowDisk(9, textsOf(history)...))
	wrong := map[string]impl.World{
		"nothing":                   {},
		"nothing, but up":           {Up: true},
		"nothing but lists":         {Took: events(tick), Sent: events(tick), Codes: codes(0)},
		"up that should be down":    {Up: true, Disk: laid(4)},
		"down that should be up":    {Hub: freshHub(4)},
		"down, but with all of up":  changedWorld(up, func(w *impl.World) { w.Up = false }),
		"up, but with all of down":  changedWorld(down, func(w *impl.World) { w.Up = true }),
		"both, up":                  changedWorld(up, func(w *impl.World) { w.Disk = laid(4) }),
		"both, down":                changedWorld(down, func(w *impl.World) { w.Hub = freshHub(4) }),
		"down with a Hub not right": changedWorld(down, func(w *impl.World) { w.Hub.Book = impl.BookNew() }),
		"down, the disk in the Hub": {Hub: impl.Hub{Log: impl.Log{Disk: laid(4)}}},
	}
	for name, d := range wrongDisks() {
		wrong["down, disk: "+name] = downWith(d)
	}
	for name, d := range allDisks() {
		if len(d.Dirty) > 0 {
			wrong["down, something waits: "+name] = downWith(d)
		}
	}
	for name, h := range wrongHubs() {
		w := impl.World{Up: true, Hub: h}
		if wantDiskOk(h.Log.Disk) {
			w.Took = wantLogEvents(h.Log.Disk)
		}
		wrong["up, hub: "+name] = w
	}
	for name, change := range wrongTooks() {
		wrong["up, Took: "+name] = changedWorld(up, change)
	}
	for name, d := range upDisks() {
		wrong["up, Disk: "+name] = changedWorld(up, func(w *impl.World) { w.Disk = d })
	}
	for name, change := range hubTraces() {
		wrong["down, Hub: "+name] = changedWorld(down, func(w *impl.World) { change(&w.Hub) })
	}
	return wrong
}

// wrongTooks change Took from what the log tells.
func wrongTooks() map[string]func(w *impl.World) {
	return map[string]func(w *impl.World){
		"nothing":                  func(w *impl.World) { w.Took = nil },
		"without its last":         func(w *impl.World) { w.Took = w.Took[:len(w.Took)-1] },
		"without its first":        func(w *impl.World) { w.Took = w.Took[1:] },
		"without what waits":       func(w *impl.World) { w.Took = w.Took[:5] },
		"only what is sent":        func(w *impl.World) { w.Took = slices.Clone(w.Hub.Sent) },
		"one more":                 func(w *impl.World) { w.Took = append(w.Took, tick) },
		"one more ahead":           func(w *impl.World) { w.Took = slices.Insert(w.Took, 0, tick) },
		"no event behind":          func(w *impl.World) { w.Took = append(w.Took, impl.Event{}) },
		"the last one twice":       func(w *impl.World) { w.Took = append(w.Took, w.Took[len(w.Took)-1]) },
		"another Amt first":        func(w *impl.World) { w.Took[0].Amt++ },
		"another Key":              func(w *impl.World) { w.Took[4].Key++ },
		"another last":             func(w *impl.World) { w.Took[len(w.Took)-1] = deposit(5) },
		"Yes in the last":          func(w *impl.World) { w.Took[len(w.Took)-1].Yes = true },
		"turned round":             func(w *impl.World) { slices.Reverse(w.Took) },
		"two exchanged":            func(w *impl.World) { w.Took[1], w.Took[2] = w.Took[2], w.Took[1] },
		"twice":                    func(w *impl.World) { w.Took = slices.Repeat(w.Took, 2) },
		"nothing, but sent it all": func(w *impl.World) { w.Sent, w.Took = w.Took, nil },
		"long":                     func(w *impl.World) { w.Took = slices.Repeat(events(tick), 5000) },
	}
}

// upDisks are what a world that is up must not have as Disk.
func upDisks() map[string]impl.Disk {
	return map[string]impl.Disk{
		"one cell":                 laid(1),
		"ten cells":                disk(10),
		"MaxSectors and 1":         disk(601),
		"the hub's own":            twiceOpened().Log.Disk,
		"not right":                {Cells: []impl.Cell{cell(run(0, 5))}},
		"no cell, but a write":     {Dirty: []impl.Write{write(0, run(0, 128))}},
		"no cell, but no bytes":    {Dirty: []impl.Write{{}}},
		"one cell, and it waits":   waiting(laid(1), 0, run(0, 128)),
		"many writes but no cells": {Dirty: writes(700, 5)},
	}
}

// hubTraces leave one thing behind in a Hub that is nothing.
func hubTraces() map[string]func(h *impl.Hub) {
	traces := map[string]func(h *impl.Hub){
		"a cell":         func(h *impl.Hub) { h.Log.Disk.Cells = make([]impl.Cell, 1) },
		"a write":        func(h *impl.Hub) { h.Log.Disk.Dirty = make([]impl.Write, 1) },
		"a channel":      func(h *impl.Hub) { h.Book.Chans = make([]impl.Chan, 1) },
		"a payment":      func(h *impl.Hub) { h.Book.Htlcs = make([]impl.Htlc, 1) },
		"a circle":       func(h *impl.Hub) { h.Book.Circles = make([]impl.Circle, 1) },
		"a line":         func(h *impl.Hub) { h.Ledger.Lines = make([]impl.Line, 1) },
		"one that waits": func(h *impl.Hub) { h.Wait = make([]impl.Event, 1) },
		"one sent":       func(h *impl.Hub) { h.Sent = make([]impl.Event, 1) },
		"a new book":     func(h *impl.Hub) { h.Book = impl.BookNew() },
	}
	for _, n := range []int{leastInt, -1, 1, 2, greatestInt} {
		name := numberName(n)
		traces["Next "+name] = func(h *impl.Hub) { h.Log.Next = n }
		traces["Epoch "+name] = func(h *impl.Hub) { h.Log.Epoch = n }
		traces["the book's Tick "+name] = func(h *impl.Hub) { h.Book.Tick = n }
		traces["the book's Next "+name] = func(h *impl.Hub) { h.Book.Next = n }
		traces["the book's Wallet "+name] = func(h *impl.Hub) { h.Book.Wallet = n }
		traces["the ledger's Last "+name] = func(h *impl.Hub) { h.Ledger.Last = n }
	}
	return traces
}
