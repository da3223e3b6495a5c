package tests

import (
	"slices"
	"testing"

	"loop.example/g00400/impl"
)

// sharedHub is a right hub whose own lists share memory: what is sent and what waits, with room behind it, and the bytes of cells and writes.
func sharedHub() impl.Hub {
	h := twiceOpened()
	all := append(make([]impl.Event, 0, 40), saidAll(textsOf(history)...)...)
	h.Sent, h.Wait = all[3:5], all[5:7]
	d := &h.Log.Disk
	junk := run(3, 128)
	d.Cells[10], d.Cells[11] = cell(junk), cell(junk)
	d.Dirty = append(d.Dirty, write(6, d.Cells[6].Bytes), write(11, junk), write(7, d.Dirty[0].Bytes))
	return h
}

// hubAnswers are what the chapter's functions make of a hub.
func hubAnswers() map[string]func(h impl.Hub) impl.Hub {
	take := func(e impl.Event) func(h impl.Hub) impl.Hub {
		return func(h impl.Hub) impl.Hub {
			after, _ := impl.HubTake(h, e)
			return after
		}
	}
	return map[string]func(h impl.Hub) impl.Hub{
		"take, nothing posted": take(tick),
		"take, posted":         take(deposit(5)),
		"take a price":         take(said("price 1 5 5")),
		"take an opening":      take(said("open 3 5 5")),
		"take a payment":       take(said("admit 9 1 2 5 no")),
		"take a fulfilling":    take(said("fulfill 7")),
		"take a circle's end":  take(said("lost 8")),
		"sync":                 impl.HubSync,
		"crash":                func(h impl.Hub) impl.Hub { return impl.Hub{Log: impl.Log{Disk: impl.HubCrash(h, []int{128, 128, 5})}} },
		"open": func(h impl.Hub) impl.Hub {
			after, _ := impl.HubOpen(impl.Disk{Cells: h.Log.Disk.Cells})
			return after
		},
	}
}

// P13: every answer is new memory, and no two lists of it share any, whatever the argument's lists share.
func TestP13HubNewMemory(t *testing.T) {
	for which, made := range map[string]func() impl.Hub{
		"shared": sharedHub,
		"roomy":  func() impl.Hub { return roomyHub(twiceOpened()) },
		"waits":  func() impl.Hub { return waitingHub(12, textsOf(history)...) },
		"sent":   func() impl.Hub { return laidHub(12, textsOf(history)...) },
	} {
		for name, of := range hubAnswers() {
			h := made()
			got := of(h)
			if sameHub(got, impl.Hub{}) {
				t.Errorf("%s, %s: nothing is answered", which, name)
			}
			keep := copyOfHub(got)
			if !hubApart(of(h)) {
				t.Errorf("%s, %s: two lists of the answer share memory", which, name)
			}
			blotHub(of(h))
			if !sameHub(allOfHub(h), allOfHub(made())) {
				t.Errorf("%s, %s: the hub changes with the answer", which, name)
			}
			blotHub(h)
			if !sameHub(got, keep) {
				t.Errorf("%s, %s: the answer changes with the hub", which, name)
			}
		}
	}
}

// P13: two hubs that are made of one don't come into one another, nor do two starts of one disk.
func TestP13HubsApart(t *testing.T) {
	h := sharedHub()
	one, two := hubTook(t, h, tick, deposit(1)), hubTook(t, h, deposit(7), tick)
	one, two = impl.HubSync(one), hubTook(t, two, said("fail 7"))
	all := saidAll(textsOf(history)...)
	if !lookMade(t, "the first", one, slices.Concat(all, events(tick, deposit(1)))) || !slices.Equal(one.Sent, slices.Concat(all[3:], events(tick, deposit(1)))) {
		t.Errorf("the first has %+v", briefly(one))
	}
	if !lookMade(t, "the second", two, slices.Concat(all, events(deposit(7), tick, said("fail 7")))) || !slices.Equal(two.Sent, all[3:5]) {
		t.Errorf("the second has %+v", briefly(two))
	}
	if !sameHub(allOfHub(h), allOfHub(sharedHub())) {
		t.Error("the one of which they are made is changed")
	}
}

// P13: what is refused leaves the hub as it is and answers nothing but the code, however far it came.
func TestP13HubRefusedChangesNothing(t *testing.T) {
	for name, c := range map[string]struct {
		h    impl.Hub
		e    impl.Event
		code int
	}{
		"by HubOk":  {changedHub(twiceOpened(), func(h *impl.Hub) { h.Wait = nil }), tick, 20},
		"by Apply":  {sharedHub(), said("fulfill 9"), 15},
		"by LogAdd": {laidHub(8, textsOf(history)...), said("fulfill 7"), 21},
		"by Post":   {laidHub(9, textsOf(vastHistory)...), deposit(1), 22},
	} {
		given := roomyHub(c.h)
		for range 3 {
			got, code := impl.HubTake(given, c.e)
			if code != c.code || !sameHub(got, impl.Hub{}) {
				t.Errorf("%s: code %d, %+v", name, code, briefly(got))
			}
		}
		if !sameHub(allOfHub(given), allOfHub(roomyHub(c.h))) {
			t.Errorf("%s: the hub is changed", name)
		}
	}
}

// P13: lists that are nil and lists that are empty make the same.
func TestP13HubOfEmptyLists(t *testing.T) {
	for name, h := range map[string]impl.Hub{"nobody opened it": freshHub(4), "just opened": laidHub(4), "ticked": tickedHub(3)} {
		h.Sent = nil
		other := changedHub(h, notNil)
		for _, e := range events(tick, deposit(5), said("fulfill 7"), impl.Event{}) {
			one, code := impl.HubTake(h, e)
			two, same := impl.HubTake(other, e)
			if code != same || !sameHub(one, two) || code == 20 {
				t.Errorf("%s: HubTake of %+v has the codes %d and %d", name, e, code, same)
			}
		}
		if !impl.HubOk(h) || !impl.HubOk(other) || !sameHub(impl.HubSync(h), impl.HubSync(other)) || !impl.SameBook(h.Book, other.Book) {
			t.Errorf("%s: not the same", name)
		}
		if !sameDisk(impl.HubCrash(h, nil), impl.HubCrash(other, []int{})) {
			t.Errorf("%s: HubCrash isn't the same", name)
		}
	}
}
