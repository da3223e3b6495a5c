package tests

import (
	"slices"
	"testing"

	"loop.example/g00400/impl"
)

// round is what a launch changes: channels at these places, and one circle more.
func round(from int, to int, x impl.Circle) func(b *impl.Book) {
	return func(b *impl.Book) {
		b.Chans[from].Local -= x.Amt + x.Fee
		b.Chans[to].Remote -= x.Amt
		b.Circles = append(b.Circles, x)
	}
}

func TestP13ApplyLaunch(t *testing.T) {
	b := busy()
	launch := func(amt int, fee int) impl.Event {
		return impl.Event{Kind: impl.EvLaunch, Key: 3, Ch: 1, To: 2, Amt: amt, Fee: fee}
	}
	vast := sized(impl.Book{Next: 9, Chans: chans(peer(1, top, 0), peer(2, 0, top))})
	lookApplied(t,
		applied{name: "behind others", from: b, event: said("launch 3 2 1 200 5"), lines: lines(line(local(2), -205), line(underOut(2), 205)), change: round(1, 0, circle(3, 2, 1, 200, 5))},
		applied{name: "the first", from: toll(9, 9), event: said("launch 3 1 2 30 4"), lines: lines(line(local(1), -34), line(underOut(1), 34)), change: round(0, 1, circle(3, 1, 2, 30, 4))},
		applied{name: "for nothing", from: b, event: said("launch 1000000 1 2 1 0"), lines: lines(line(local(1), -1), line(underOut(1), 1)), change: round(0, 1, circle(1000000, 1, 2, 1, 0))},
		applied{name: "a Fee far above Amt", from: b, event: said("launch 3 2 1 1 399"), lines: lines(line(local(2), -400), line(underOut(2), 400)), change: round(1, 0, circle(3, 2, 1, 1, 399))},
		applied{name: "Local one below both", from: b, event: said("launch 3 2 1 1 400"), code: 12},
		applied{name: "Local one below Amt", from: b, event: said("launch 3 5 1 51 0"), code: 12},
		applied{name: "Local just Amt, but for the Fee", from: b, event: said("launch 3 5 1 50 1"), code: 12},
		applied{name: "Remote just Amt", from: b, event: said("launch 3 1 2 100 7"), lines: lines(line(local(1), -107), line(underOut(1), 107)), change: round(0, 1, circle(3, 1, 2, 100, 7))},
		applied{name: "Remote one below", from: b, event: said("launch 3 1 2 101 0"), code: 11},
		applied{name: "both just MaxAmt", from: vast, event: launch(top-5, 5), lines: lines(line(local(1), -top), line(underOut(1), top)), change: round(0, 1, circle(3, 1, 2, top-5, 5))},
		applied{name: "both one above", from: vast, event: launch(top-5, 6), code: 10},
		applied{name: "both twice MaxAmt", from: vast, event: launch(top, top), code: 10},
		applied{name: "Amt MaxAmt", from: vast, event: launch(top, 0), lines: lines(line(local(1), -top), line(underOut(1), top)), change: round(0, 1, circle(3, 1, 2, top, 0))},
		applied{name: "the Key of a payment", from: b, event: said("launch 7 1 2 1 0"), code: 9},
		applied{name: "the Key of a circle", from: b, event: said("launch 6 1 2 1 0"), code: 9},
		applied{name: "no Ch", from: b, event: said("launch 3 4 2 1 0"), code: 6},
		applied{name: "no To", from: b, event: said("launch 3 1 4 1 0"), code: 6},
		applied{name: "of none", from: impl.BookNew(), event: said("launch 3 1 2 1 0"), code: 6},
		applied{name: "no Id left", from: changed(b, func(b *impl.Book) { b.Next = top }), event: said("launch 3 1 2 1 0"), code: 2},
		applied{name: "not right", from: b, event: impl.Event{Kind: impl.EvLaunch, Key: 3, Ch: 1, To: 2, Amt: 0, Fee: 1}, code: 1},
		applied{name: "the last place", from: crowded(60, 19), event: said("launch 900 1 2 1 0"), lines: lines(line(local(1), -1), line(underOut(1), 1)), change: round(0, 1, circle(900, 1, 2, 1, 0))},
		applied{name: "no place", from: crowded(0, 20), event: said("launch 900 1 2 1 0"), code: 14},
		applied{name: "rooms don't count", from: roomsOf(0, 5, 5, 1), event: said("launch 99 2 1 90 0"), lines: lines(line(local(2), -90), line(underOut(2), 90)), change: round(1, 0, circle(99, 2, 1, 90, 0))},
	)
}

// ended is what ends a circle, but for where its amounts go.
func ended(at int, change func(c []impl.Chan)) func(b *impl.Book) {
	return func(b *impl.Book) {
		b.Circles = slices.Delete(b.Circles, at, at+1)
		change(b.Chans)
	}
}

func TestP13ApplyArrive(t *testing.T) {
	b := busy()
	first := ended(0, func(c []impl.Chan) { c[1].Remote, c[2].Local = 123, 70 })
	post := lines(line(rebal, 3), line(local(5), 20), line(underOut(2), -23))
	lookApplied(t,
		applied{name: "the first", from: b, event: said("arrive 6"), lines: post, change: first},
		applied{name: "for nothing", from: b, event: said("arrive 500"), lines: lines(line(local(1), 9), line(underOut(5), -9)), change: ended(1, func(c []impl.Chan) { c[2].Remote, c[0].Local = 69, 209 })},
		applied{name: "none", from: b, event: said("arrive 9"), code: 15},
		applied{name: "the Key of a payment", from: b, event: said("arrive 7"), code: 15},
		applied{name: "of nothing", from: impl.BookNew(), event: said("arrive 1"), code: 15},
		applied{name: "no Id left", from: changed(b, func(b *impl.Book) { b.Next = top }), event: said("arrive 6"), code: 2},
		applied{name: "the last Id", from: changed(b, func(b *impl.Book) { b.Next = top - 1 }), event: said("arrive 6"), lines: post, change: first},
		applied{name: "not right", from: b, event: impl.Event{Kind: impl.EvArrive, Key: 6, Yes: true}, code: 1},
	)
}

func TestP13ApplyLost(t *testing.T) {
	b := busy()
	first := ended(0, func(c []impl.Chan) { c[1].Local, c[2].Remote = 423, 80 })
	post := lines(line(local(2), 23), line(underOut(2), -23))
	lookApplied(t,
		applied{name: "the first", from: b, event: said("lost 6"), lines: post, change: first},
		applied{name: "for nothing", from: b, event: said("lost 500"), lines: lines(line(local(5), 9), line(underOut(5), -9)), change: ended(1, func(c []impl.Chan) { c[2].Local, c[0].Remote = 59, 309 })},
		applied{name: "none", from: b, event: said("lost 9"), code: 15},
		applied{name: "the Key of a payment", from: b, event: said("lost 1000"), code: 15},
		applied{name: "of nothing", from: impl.BookNew(), event: said("lost 1"), code: 15},
		applied{name: "no Id left", from: changed(b, func(b *impl.Book) { b.Next = top }), event: said("lost 6"), code: 2},
		applied{name: "not right", from: b, event: impl.Event{Kind: impl.EvLost, Key: 1000001}, code: 1},
	)
}
