package tests

import (
	"slices"
	"testing"

	"loop.example/g00400/impl"
)

func TestP13ApplyDeposit(t *testing.T) {
	b := busy()
	rich := changed(b, func(b *impl.Book) { b.Wallet = top - 5 })
	full := changed(b, func(b *impl.Book) { b.Wallet = top })
	lookApplied(t,
		applied{name: "to nothing", from: impl.BookNew(), event: said("deposit 5"), lines: lines(line(wallet, 5), line(equity, -5)), change: func(b *impl.Book) { b.Wallet = 5 }},
		applied{name: "to a busy one", from: b, event: said("deposit 7"), lines: lines(line(wallet, 7), line(equity, -7)), change: func(b *impl.Book) { b.Wallet = 507 }},
		applied{name: "all at once", from: impl.BookNew(), event: said("deposit 1125899906842624"), lines: lines(line(wallet, top), line(equity, -top)), change: func(b *impl.Book) { b.Wallet = top }},
		applied{name: "just to MaxAmt", from: rich, event: said("deposit 5"), lines: lines(line(wallet, 5), line(equity, -5)), change: func(b *impl.Book) { b.Wallet = top }},
		applied{name: "one past it", from: rich, event: said("deposit 6"), code: 2},
		applied{name: "1 to a full one", from: full, event: said("deposit 1"), code: 2},
		applied{name: "all to a full one", from: full, event: deposit(top), code: 2},
		applied{name: "the last Id", from: changed(b, func(b *impl.Book) { b.Next = top - 1 }), event: deposit(1), lines: lines(line(wallet, 1), line(equity, -1)), change: func(b *impl.Book) { b.Wallet = 501 }},
		applied{name: "no Id left", from: changed(b, func(b *impl.Book) { b.Next = top }), event: deposit(1), code: 2},
		applied{name: "the first Id", from: changed(b, func(b *impl.Book) { b.Next = 1 }), event: deposit(1), lines: lines(line(wallet, 1), line(equity, -1)), change: func(b *impl.Book) { b.Wallet = 501 }},
		applied{name: "not right", from: b, event: deposit(0), code: 1},
	)
}

func TestP13ApplyOpen(t *testing.T) {
	b := busy()
	put := func(at int, ch int, ours int, theirs int, left int) func(b *impl.Book) {
		return func(b *impl.Book) {
			b.Wallet = left
			b.Chans = slices.Insert(b.Chans, at, impl.Chan{Id: ch, Size: ours + theirs, Local: ours, Remote: theirs})
		}
	}
	rich := impl.Book{Next: 2, Wallet: top}
	many, most := sized(impl.Book{Next: 1, Wallet: 9, Chans: manyChans(19, 4, 5)}), sized(impl.Book{Next: 1, Wallet: 9, Chans: manyChans(20, 4, 5)})
	lookApplied(t,
		applied{name: "the first", from: rich, event: said("open 50 200 300"), lines: lines(line(wallet, -200), line(local(50), 200)), change: put(0, 50, 200, 300, top-200)},
		applied{name: "between", from: b, event: said("open 3 200 300"), lines: lines(line(wallet, -200), line(local(3), 200)), change: put(2, 3, 200, 300, 300)},
		applied{name: "behind", from: b, event: said("open 99 1 0"), lines: lines(line(wallet, -1), line(local(99), 1)), change: put(5, 99, 1, 0, 499)},
		applied{name: "ahead", from: many, event: said("open 1 4 5"), lines: lines(line(wallet, -4), line(local(1), 4)), change: put(0, 1, 4, 5, 5)},
		applied{name: "just the wallet", from: b, event: said("open 4 500 0"), lines: lines(line(wallet, -500), line(local(4), 500)), change: put(2, 4, 500, 0, 0)},
		applied{name: "one more than the wallet", from: b, event: said("open 4 501 0"), code: 4},
		applied{name: "of an empty wallet", from: impl.BookNew(), event: said("open 4 1 0"), code: 4},
		applied{name: "Size just MaxAmt", from: rich, event: impl.Event{Kind: impl.EvOpen, Ch: 1, Amt: 5, Fee: top - 5}, lines: lines(line(wallet, -5), line(local(1), 5)), change: put(0, 1, 5, top-5, top-5)},
		applied{name: "Size just MaxAmt, all ours", from: rich, event: impl.Event{Kind: impl.EvOpen, Ch: 1, Amt: top}, lines: lines(line(wallet, -top), line(local(1), top)), change: put(0, 1, top, 0, 0)},
		applied{name: "Size one above", from: rich, event: impl.Event{Kind: impl.EvOpen, Ch: 1, Amt: 5, Fee: top - 4}, code: 2},
		applied{name: "Size twice MaxAmt", from: rich, event: impl.Event{Kind: impl.EvOpen, Ch: 1, Amt: top, Fee: top}, code: 2},
		applied{name: "the last place", from: many, event: said("open 80 9 0"), lines: lines(line(wallet, -9), line(local(80), 9)), change: put(0, 80, 9, 0, 0)},
		applied{name: "no place left", from: most, event: said("open 1 9 0"), code: 3},
		applied{name: "there, and no place left", from: most, event: said("open 99 9 0"), code: 3},
		applied{name: "it is there", from: b, event: said("open 5 1 0"), code: 3},
		applied{name: "it is there, the first", from: b, event: said("open 1 1 0"), code: 3},
		applied{name: "it is there, the last", from: b, event: said("open 12 1 0"), code: 3},
		applied{name: "no Id left", from: impl.Book{Next: top, Wallet: 9}, event: said("open 1 9 0"), code: 2},
		applied{name: "not right", from: b, event: impl.Event{Kind: impl.EvOpen, Ch: 3, Amt: 0, Fee: 5}, code: 1},
	)
}

func TestP13ApplyClose(t *testing.T) {
	b := busy()
	drop := func(at int, left int) func(b *impl.Book) {
		return func(b *impl.Book) { b.Wallet, b.Chans = left, slices.Delete(b.Chans, at, at+1) }
	}
	rich := changed(b, func(b *impl.Book) { b.Wallet = top - 60 })
	free := sized(impl.Book{Next: 7, Chans: chans(peer(1, 5, 6), peer(2, 7, 8), peer(3, top, 0))})
	circled := sized(impl.Book{Next: 7, Chans: chans(peer(1, 5, 6), peer(2, 7, 8), peer(3, 9, 0)), Circles: circles(circle(1, 1, 2, 3, 0))})
	payed := sized(impl.Book{Next: 7, Chans: chans(peer(1, 5, 6), peer(2, 7, 8), peer(3, 9, 0)), Htlcs: htlcs(pay(1, 1, 2, 3, 3))})
	lookApplied(t,
		applied{name: "the last", from: b, event: said("close 12 20"), lines: lines(line(wallet, 50), line(chain, 20), line(local(12), -70)), change: drop(4, 550)},
		applied{name: "the first", from: free, event: said("close 1 2"), lines: lines(line(wallet, 3), line(chain, 2), line(local(1), -5)), change: drop(0, 3)},
		applied{name: "the middle", from: free, event: said("close 2 6"), lines: lines(line(wallet, 1), line(chain, 6), line(local(2), -7)), change: drop(1, 1)},
		applied{name: "for nothing", from: b, event: said("close 12 0"), lines: lines(line(wallet, 70), line(local(12), -70)), change: drop(4, 570)},
		applied{name: "Fee just Local", from: b, event: said("close 12 70"), lines: lines(line(chain, 70), line(local(12), -70)), change: drop(4, 500)},
		applied{name: "Fee one above Local", from: b, event: said("close 12 71"), code: 8},
		applied{name: "Fee MaxAmt", from: free, event: impl.Event{Kind: impl.EvClose, Ch: 3, Fee: top}, lines: lines(line(chain, top), line(local(3), -top)), change: drop(2, 0)},
		applied{name: "all of MaxAmt", from: free, event: said("close 3 0"), lines: lines(line(wallet, top), line(local(3), -top)), change: drop(2, top)},
		applied{name: "nothing in it, no line left", from: b, event: said("close 9 0"), change: drop(3, 500)},
		applied{name: "nothing in it, a Fee of 1", from: b, event: said("close 9 1"), code: 8},
		applied{name: "Wallet just MaxAmt", from: rich, event: said("close 12 10"), lines: lines(line(wallet, 60), line(chain, 10), line(local(12), -70)), change: drop(4, top)},
		applied{name: "Wallet one above", from: rich, event: said("close 12 9"), code: 2},
		applied{name: "Wallet full, nothing comes", from: changed(b, func(b *impl.Book) { b.Wallet = top }), event: said("close 12 70"), lines: lines(line(chain, 70), line(local(12), -70)), change: drop(4, top)},
		applied{name: "not there", from: b, event: said("close 3 0"), code: 6},
		applied{name: "of none", from: impl.BookNew(), event: said("close 1 0"), code: 6},
		applied{name: "a payment comes in by it", from: payed, event: said("close 1 0"), code: 7},
		applied{name: "a payment goes out by it", from: payed, event: said("close 2 0"), code: 7},
		applied{name: "a circle is from it", from: circled, event: said("close 1 0"), code: 7},
		applied{name: "a circle is to it", from: circled, event: said("close 2 0"), code: 7},
		applied{name: "beside a payment", from: payed, event: said("close 3 9"), lines: lines(line(chain, 9), line(local(3), -9)), change: drop(2, 0)},
		applied{name: "beside a circle", from: circled, event: said("close 3 0"), lines: lines(line(wallet, 9), line(local(3), -9)), change: drop(2, 9)},
		applied{name: "no Id left, though no line would be", from: changed(b, func(b *impl.Book) { b.Next = top }), event: said("close 9 0"), code: 2},
		applied{name: "not right", from: b, event: impl.Event{Kind: impl.EvClose, Ch: 12, Fee: -1}, code: 1},
	)
}

func TestP13ApplyPrice(t *testing.T) {
	b := busy()
	set := func(at int, base int, ppm int) func(b *impl.Book) {
		return func(b *impl.Book) { b.Chans[at].Base, b.Chans[at].Ppm = base, ppm }
	}
	lookApplied(t,
		applied{name: "the first", from: b, event: said("price 1 4 5"), change: set(0, 4, 5)},
		applied{name: "in use", from: b, event: said("price 2 9 70000"), change: set(1, 9, 70000)},
		applied{name: "to nothing", from: b, event: said("price 12 0 0"), change: set(4, 0, 0)},
		applied{name: "to the ends", from: b, event: impl.Event{Kind: impl.EvPrice, Ch: 5, Amt: top, Fee: 1000000}, change: set(2, top, 1000000)},
		applied{name: "as it is", from: b, event: said("price 2 1 50000"), change: set(1, 1, 50000)},
		applied{name: "not there", from: b, event: said("price 3 4 5"), code: 6},
		applied{name: "of none", from: impl.BookNew(), event: said("price 3 4 5"), code: 6},
		applied{name: "no Id left, though nothing is posted", from: changed(b, func(b *impl.Book) { b.Next = top }), event: said("price 1 4 5"), code: 2},
		applied{name: "the last Id stays", from: changed(b, func(b *impl.Book) { b.Next = top - 1 }), event: said("price 1 4 5"), change: set(0, 4, 5)},
		applied{name: "not right", from: b, event: impl.Event{Kind: impl.EvPrice, Ch: 1, Fee: 1000001}, code: 1},
	)
}

func TestP13ApplyTick(t *testing.T) {
	b := busy()
	at := func(tick int) impl.Book { return changed(b, func(b *impl.Book) { b.Tick = tick }) }
	on := func(tick int) func(b *impl.Book) {
		return func(b *impl.Book) {
			b.Tick = tick
			b.Htlcs[0].Age, b.Htlcs[1].Age, b.Htlcs[2].Age = 1, 7, 1
		}
	}
	faded := func(tick int) func(b *impl.Book) {
		return func(b *impl.Book) {
			on(tick)(b)
			for i, score := range []int{24, -4, 0, 99, -99} {
				b.Chans[i].Score = score
			}
		}
	}
	old := changed(at(20), func(b *impl.Book) { b.Htlcs[0].Age, b.Htlcs[1].Age, b.Htlcs[2].Age = top, top-1, 0 })
	lookApplied(t,
		applied{name: "of nothing", from: impl.BookNew(), event: tick, change: func(b *impl.Book) { b.Tick = 1 }},
		applied{name: "to 1", from: at(0), event: tick, change: on(1)},
		applied{name: "to 4", from: at(3), event: tick, change: on(4)},
		applied{name: "to 5", from: at(4), event: tick, change: faded(5)},
		applied{name: "to 6", from: at(5), event: tick, change: on(6)},
		applied{name: "to 9", from: at(8), event: tick, change: on(9)},
		applied{name: "to 10", from: at(9), event: tick, change: faded(10)},
		applied{name: "to 1000", from: at(999), event: tick, change: faded(1000)},
		applied{name: "Ages at MaxAmt stay", from: old, event: tick, change: func(b *impl.Book) { b.Tick, b.Htlcs[1].Age, b.Htlcs[2].Age = 21, top, 1 }},
		// MaxAmt less 4 divides by 5, MaxAmt doesn't.
		applied{name: "to MaxAmt less 4", from: at(top - 5), event: tick, change: faded(top - 4)},
		applied{name: "to MaxAmt", from: at(top - 1), event: tick, change: on(top)},
		applied{name: "past MaxAmt", from: at(top), event: tick, code: 2},
		applied{name: "past MaxAmt of nothing", from: impl.Book{Tick: top, Next: 1}, event: tick, code: 2},
		applied{name: "no Id left, though nothing is posted", from: impl.Book{Next: top}, event: tick, code: 2},
		applied{name: "not right", from: b, event: impl.Event{Kind: impl.EvTick, Key: 1}, code: 1},
	)
}
