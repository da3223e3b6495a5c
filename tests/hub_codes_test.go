package tests

import (
	"slices"
	"testing"

	"loop.example/g00400/impl"
)

// A refusal is an event that a hub doesn't take, with all codes that hold, in the order in which they are looked for: the first counts.
type refusal struct {
	name  string
	hub   impl.Hub
	event impl.Event
	codes []int
}

func lookRefused(t *testing.T, cases ...refusal) {
	t.Helper()
	for _, c := range cases {
		if l := wantTaking(c.hub, c.event); !slices.Equal(l, c.codes) {
			t.Errorf("%s: of %+v the tests reckon that %v hold, told is %v", c.name, c.event, l, c.codes)
		}
		lookHubTake(t, c.name, c.hub, c.event)
		got, code := impl.HubTake(c.hub, c.event)
		if want := append(c.codes, 0)[0]; code != want || code != 0 && !sameHub(got, impl.Hub{}) {
			t.Errorf("%s: HubTake of %+v has code %d, %+v; want %d", c.name, c.event, code, briefly(got), want)
		}
	}
}

// P13: each code of the book's, and what is just taken beside it.
func TestP13HubTakeCodesOfTheBook(t *testing.T) {
	h := laidHub(30, textsOf(history)...)
	of := func(texts ...string) impl.Hub { return laidHub(90, append(textsOf(history), texts...)...) }
	full := of("deposit 1125899906841224")
	dear := of("price 2 1125899906842624 0")
	var launches, opens []string
	for i := range 19 {
		launches = append(launches, "launch "+impl.NumText(100+i)+" 2 1 1 0")
	}
	for i := range 18 {
		opens = append(opens, "open "+impl.NumText(10+i)+" 1 0")
	}
	round, many := of(launches...), of(opens...)
	lookRefused(t,
		refusal{"no event", h, impl.Event{}, codes(1)},
		refusal{"a tick with a Key", h, impl.Event{Kind: impl.EvTick, Key: 1}, codes(1)},
		refusal{"a right tick", h, tick, nil},
		refusal{"Wallet past its end", full, said("deposit 1001"), codes(2)},
		refusal{"Size past its end", h, said("open 3 1 1125899906842624"), codes(2)},
		refusal{"Size just at it", h, said("open 3 1 1125899906842623"), nil},
		refusal{"the channel is there", h, said("open 2 1 0"), codes(3)},
		refusal{"MaxChans channels", many, said("open 9 1 0"), codes(3)},
		refusal{"MaxChans less 1", changedHub(of(opens[1:]...), notNilLists), said("open 9 1 0"), nil},
		refusal{"more than the wallet", h, said("open 3 401 0"), codes(4)},
		refusal{"just the wallet", h, said("open 3 400 0"), nil},
		refusal{"no such channel", h, said("close 3 0"), codes(6)},
		refusal{"no such channel to price", h, said("price 3 1 1"), codes(6)},
		refusal{"in use", h, said("close 1 0"), codes(7)},
		refusal{"free again", of("fail 7", "lost 8"), said("close 1 200"), nil},
		refusal{"costs more", of("fail 7", "lost 8"), said("close 1 201"), codes(8)},
		refusal{"the Key of a payment", h, said("admit 7 1 2 1 no"), codes(9)},
		refusal{"the Key of a circle", h, said("launch 8 1 2 1 0"), codes(9)},
		refusal{"no amount", dear, said("admit 9 1 2 1 no"), codes(10, 11)},
		refusal{"no amount, too dear", of("price 2 1125899906842624 1"), said("admit 9 1 2 1 no"), codes(10, 11)},
		refusal{"the peer has less", h, said("admit 9 1 2 154 no"), codes(11, 13)},
		refusal{"the hub has less", h, said("launch 9 1 2 100 101"), codes(12)},
		refusal{"the hub has just that", h, said("launch 9 1 2 100 100"), nil},
		refusal{"no room", h, said("admit 9 1 2 150 yes"), codes(13)},
		refusal{"just the room", h, said("admit 9 1 2 149 no"), nil},
		refusal{"MaxCircles circles", round, said("launch 9 2 1 1 0"), codes(14)},
		refusal{"one place left", of(launches[1:]...), said("launch 9 2 1 1 0"), nil},
		refusal{"no such payment", h, said("fulfill 8"), codes(15)},
		refusal{"no such circle", h, said("arrive 7"), codes(15)},
		refusal{"no such payment to fail", h, said("fail 9"), codes(15)},
		refusal{"no such circle to lose", h, said("lost 9"), codes(15)},
	)
}

// notNilLists makes Wait and Sent empty lists, where they are nil.
func notNilLists(h *impl.Hub) {
	h.Wait, h.Sent = append(events(), h.Wait...), append(events(), h.Sent...)
}

// P13: MaxHtlcs payments: five in the general room of each of twelve channels.
func TestP13HubTakeFullOfPayments(t *testing.T) {
	texts := []string{"deposit 1000000"}
	for i := range 14 {
		texts = append(texts, "open "+impl.NumText(1+i)+" 1000 1000")
	}
	for i := range 59 {
		texts = append(texts, "admit "+impl.NumText(1+i)+" 14 "+impl.NumText(1+i/5)+" 2 no")
	}
	less := laidHub(100, texts...)
	most := laidHub(100, append(texts, "admit 60 14 13 2 no")...)
	lookRefused(t,
		refusal{"one place left", less, said("admit 60 14 13 2 no"), nil},
		refusal{"MaxHtlcs", most, said("admit 61 14 13 2 no"), codes(14)},
		refusal{"MaxHtlcs, and too much", most, said("admit 61 14 13 2000 no"), codes(14, 11, 12, 13)},
	)
}

// P13: 20, 21 and 22, and of several that hold the first.
func TestP13HubTakeOwnCodes(t *testing.T) {
	h, full := laidHub(12, textsOf(history)...), laidHub(8, textsOf(history)...)
	vast, vastFull := laidHub(12, textsOf(vastHistory)...), laidHub(3, textsOf(vastHistory)...)
	wrong := func(h impl.Hub) impl.Hub { return changedHub(h, func(h *impl.Hub) { h.Wait = events(deposit(9)) }) }
	badBook := func(h impl.Hub) impl.Hub { return changedHub(h, func(h *impl.Hub) { h.Book.Tick = -1 }) }
	badDisk := func(h impl.Hub) impl.Hub {
		return changedHub(h, func(h *impl.Hub) { h.Log.Disk.Cells[0].Bytes = run(0, 127) })
	}
	refused := said("fulfill 9")
	lookRefused(t,
		refusal{"taken", h, tick, nil},
		refusal{"full", full, tick, codes(21)},
		refusal{"full, all waits", waitingHub(8, textsOf(history)...), tick, codes(21)},
		refusal{"one cell, just opened", laidHub(1), tick, codes(21)},
		refusal{"one cell, nobody opened it", freshHub(1), tick, nil},
		refusal{"a cell left", laidHub(9, textsOf(history)...), tick, nil},
		refusal{"MaxSectors sectors", tickedHub(600), tick, codes(21)},
		refusal{"MaxSectors less 1", changedHub(laidHub(600), notNilLists), tick, nil},
		refusal{"MaxDirty writes", crowdedDisk(h), tick, codes(21)},
		refusal{"MaxDirty less 1", lessCrowded(crowdedDisk(h)), tick, nil},
		refusal{"MaxDirty writes, refused", crowdedDisk(h), refused, codes(15, 21)},
		refusal{"MaxDirty writes, not right", wrong(crowdedDisk(h)), tick, codes(20, 21)},
		refusal{"full, refused", full, refused, codes(15, 21)},
		refusal{"full, no event", full, impl.Event{}, codes(1, 21)},
		refusal{"full, the channel is there", full, said("open 1 401 0"), codes(3, 4, 21)},
		refusal{"doesn't go", vast, deposit(1), codes(22)},
		refusal{"all of it doesn't go", vast, deposit(top), codes(22)},
		refusal{"what posts nothing goes", vast, tick, nil},
		refusal{"what posts within its ends goes", vast, said("close 1 5"), nil},
		refusal{"just goes", laidHub(12, "deposit 1125899906842623", "open 1 1125899906842623 0"), deposit(1), nil},
		refusal{"just doesn't", laidHub(12, "deposit 1125899906842623", "open 1 1125899906842623 0"), deposit(2), codes(22)},
		refusal{"the income past its end", richHub(12), said("fulfill 7"), codes(22)},
		refusal{"full, doesn't go", vastFull, deposit(1), codes(21, 22)},
		refusal{"MaxDirty writes, doesn't go", crowdedDisk(vast), deposit(1), codes(21, 22)},
		refusal{"not right", wrong(h), tick, codes(20)},
		refusal{"not right, full", wrong(full), tick, codes(20, 21)},
		refusal{"not right, no event", wrong(h), impl.Event{}, codes(20, 1)},
		refusal{"not right, refused", wrong(h), refused, codes(20, 15)},
		refusal{"not right, refused, full", wrong(full), refused, codes(20, 15, 21)},
		refusal{"not right, doesn't go", wrong(vast), deposit(1), codes(20, 22)},
		refusal{"not right, full, doesn't go", wrong(vastFull), deposit(1), codes(20, 21, 22)},
		refusal{"a book that isn't right", badBook(h), tick, codes(20, 1)},
		refusal{"a book that isn't right, full", badBook(full), tick, codes(20, 1, 21)},
		refusal{"a disk that isn't right", badDisk(h), tick, codes(20)},
		refusal{"a disk that isn't right, refused", badDisk(h), refused, codes(20, 15)},
		refusal{"another ledger", changedHub(vast, func(h *impl.Hub) { h.Ledger = ledger(2) }), deposit(1), codes(20)},
	)
}

// richHub has earned all but as much as an account can have; what is fulfilled next is past it.
func richHub(n int) impl.Hub {
	half := impl.NumText(top / 2)
	return laidHub(n, "deposit 10", "open 1 1 "+impl.NumText(top-1), "open 2 5 0", "price 2 "+impl.NumText(top-3)+" 0",
		"admit 5 1 2 1 no", "fulfill 5", "open 3 1 "+half, "price 2 "+half[:len(half)-2]+" 0", "admit 7 3 2 1 no")
}
