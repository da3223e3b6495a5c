package tests

import (
	"slices"
	"testing"

	"loop.example/g00400/impl"
)

// let is what an admission changes: channels at these places, and one payment more.
func let(in int, out int, h impl.Htlc) func(b *impl.Book) {
	return func(b *impl.Book) {
		b.Chans[in].Remote -= h.AmtIn
		b.Chans[out].Local -= h.AmtOut
		b.Htlcs = append(b.Htlcs, h)
	}
}

// toll is a book whose channel 2 takes a fee.
func toll(base int, ppm int) impl.Book {
	return sized(impl.Book{Next: 9, Chans: chans(peer(1, 40, 1000), priced(2, 900, 100, base, ppm, 0))})
}

func TestP13ApplyAdmit(t *testing.T) {
	b := busy()
	vast := sized(impl.Book{Next: 9, Chans: chans(peer(1, 0, top), priced(2, top, 0, 0, 1000000, 0))})
	dear := changed(vast, func(b *impl.Book) { b.Chans[1].Base, b.Chans[1].Ppm = top-500, 0 })
	lookApplied(t,
		applied{name: "the first", from: toll(0, 0), event: said("admit 3 1 2 10 no"), lines: lines(line(local(2), -10), line(underOut(2), 10)), change: let(0, 1, pay(3, 1, 2, 10, 10))},
		applied{name: "behind others", from: b, event: said("admit 3 5 2 40 no"), lines: lines(line(local(2), -40), line(underOut(2), 40)), change: let(2, 1, pay(3, 5, 2, 43, 40))},
		applied{name: "down the channels", from: toll(0, 0), event: said("admit 1000000 2 1 10 yes"), lines: lines(line(local(1), -10), line(underOut(1), 10)), change: let(1, 0, pay(1000000, 2, 1, 10, 10))},
		applied{name: "a base", from: toll(6, 0), event: said("admit 3 1 2 10 no"), lines: lines(line(local(2), -10), line(underOut(2), 10)), change: let(0, 1, pay(3, 1, 2, 16, 10))},
		applied{name: "the fee of To, not of Ch", from: toll(6, 500000), event: said("admit 3 2 1 10 no"), lines: lines(line(local(1), -10), line(underOut(1), 10)), change: let(1, 0, pay(3, 2, 1, 10, 10))},
		applied{name: "parts, cut up", from: toll(1, 50000), event: said("admit 3 1 2 101 no"), lines: lines(line(local(2), -101), line(underOut(2), 101)), change: let(0, 1, pay(3, 1, 2, 108, 101))},
		applied{name: "parts, whole", from: toll(1, 50000), event: said("admit 3 1 2 100 no"), lines: lines(line(local(2), -100), line(underOut(2), 100)), change: let(0, 1, pay(3, 1, 2, 106, 100))},
		applied{name: "least parts", from: toll(0, 1), event: said("admit 3 1 2 1 no"), lines: lines(line(local(2), -1), line(underOut(2), 1)), change: let(0, 1, pay(3, 1, 2, 2, 1))},
		applied{name: "all parts", from: toll(0, 1000000), event: said("admit 3 1 2 500 no"), lines: lines(line(local(2), -500), line(underOut(2), 500)), change: let(0, 1, pay(3, 1, 2, 1000, 500))},
		applied{name: "AmtIn just MaxAmt", from: vast, event: impl.Event{Kind: impl.EvAdmit, Key: 3, Ch: 1, To: 2, Amt: top / 2}, lines: lines(line(local(2), -top/2), line(underOut(2), top/2)), change: let(0, 1, pay(3, 1, 2, top, top/2))},
		applied{name: "AmtIn one above", from: dear, event: said("admit 3 1 2 501 no"), code: 10},
		applied{name: "AmtIn just MaxAmt by a base", from: dear, event: said("admit 3 1 2 500 no"), lines: lines(line(local(2), -500), line(underOut(2), 500)), change: let(0, 1, pay(3, 1, 2, top, 500))},
		applied{name: "AmtIn two above by parts", from: vast, event: impl.Event{Kind: impl.EvAdmit, Key: 3, Ch: 1, To: 2, Amt: top/2 + 1}, code: 10},
		applied{name: "a fee past MaxAmt", from: changed(vast, func(b *impl.Book) { b.Chans[1].Base = top }), event: said("admit 3 1 2 1 no"), code: 10},
		applied{name: "Remote just AmtIn", from: toll(500, 0), event: said("admit 3 1 2 500 no"), lines: lines(line(local(2), -500), line(underOut(2), 500)), change: let(0, 1, pay(3, 1, 2, 1000, 500))},
		applied{name: "Remote one below", from: toll(501, 0), event: said("admit 3 1 2 500 no"), code: 11},
		applied{name: "Local just Amt", from: toll(0, 0), event: said("admit 3 2 1 40 no"), lines: lines(line(local(1), -40), line(underOut(1), 40)), change: let(1, 0, pay(3, 2, 1, 40, 40))},
		applied{name: "Local one below", from: toll(0, 0), event: said("admit 3 2 1 41 no"), code: 12},
		applied{name: "the Key of a payment", from: b, event: said("admit 7 1 2 1 no"), code: 9},
		applied{name: "the Key of a circle", from: b, event: said("admit 6 1 2 1 no"), code: 9},
		applied{name: "no Ch", from: b, event: said("admit 3 4 2 1 no"), code: 6},
		applied{name: "no To", from: b, event: said("admit 3 1 4 1 no"), code: 6},
		applied{name: "neither", from: b, event: said("admit 3 98 99 1 no"), code: 6},
		applied{name: "of none", from: impl.BookNew(), event: said("admit 3 1 2 1 no"), code: 6},
		applied{name: "Wallet is full", from: changed(toll(0, 0), func(b *impl.Book) { b.Wallet = top }), event: said("admit 3 1 2 10 no"), lines: lines(line(local(2), -10), line(underOut(2), 10)), change: let(0, 1, pay(3, 1, 2, 10, 10))},
		applied{name: "no Id left", from: changed(b, func(b *impl.Book) { b.Next = top }), event: said("admit 3 1 2 1 no"), code: 2},
		applied{name: "not right", from: b, event: impl.Event{Kind: impl.EvAdmit, Key: 3, Ch: 1, To: 1, Amt: 1}, code: 1},
	)
}

// roomsOf is a book of size 100 and the score of who asks; so many payments go out by channel 2 already, each of amt: few in the general room, the others Kept.
func roomsOf(score int, few int, kept int, amt int) impl.Book {
	b := impl.Book{Next: 9, Chans: chans(priced(1, 0, 100, 0, 0, score), peer(2, 100-(few+kept)*amt, 0), peer(3, 100, 0))}
	for i := range few + kept {
		h := pay(i+1, 1, 2, amt, amt)
		h.Kept = i >= few
		b.Htlcs = append(b.Htlcs, h)
	}
	return sized(b)
}

// P13: into which room a payment is let hangs on who sends it, on what goes out by To alone, and on nothing else.
func TestP13ApplyAdmitRooms(t *testing.T) {
	few, kept := pay(99, 1, 2, 10, 10), keptPay(99, 1, 2, 10, 10, 0)
	post := lines(line(local(2), -10), line(underOut(2), 10))
	yes, no := said("admit 99 1 2 10 yes"), said("admit 99 1 2 10 no")
	back := changed(roomsOf(0, 0, 0, 1), func(b *impl.Book) { b.Chans[0].Local, b.Chans[1].Remote = 100, 100 })
	for i := range 12 {
		back.Htlcs = append(back.Htlcs, pay(i+1, 2, 1, 1, 1), pay(i+21, 1, 3, 1, 1))
		back.Circles = append(back.Circles, circle(i+41, 2, 3, 5, 1))
	}
	lookApplied(t,
		applied{name: "general", from: roomsOf(0, 0, 0, 1), event: no, lines: post, change: let(0, 1, few)},
		applied{name: "general, though it stands well", from: roomsOf(100, 0, 0, 1), event: yes, lines: post, change: let(0, 1, few)},
		applied{name: "general, just half", from: roomsOf(0, 4, 0, 10), event: no, lines: post, change: let(0, 1, few)},
		applied{name: "one above half", from: roomsOf(0, 0, 0, 1), event: said("admit 99 1 2 51 no"), code: 13},
		applied{name: "one above half, standing well", from: roomsOf(20, 0, 0, 1), event: said("admit 99 1 2 51 yes"), lines: lines(line(local(2), -51), line(underOut(2), 51)), change: let(0, 1, keptPay(99, 1, 2, 51, 51, 0))},
		applied{name: "half is used", from: roomsOf(0, 1, 0, 41), event: no, code: 13},
		applied{name: "half is used, kept ones don't count", from: roomsOf(0, 0, 4, 20), event: no, lines: post, change: let(0, 1, few)},
		applied{name: "the slots are used", from: roomsOf(0, 5, 0, 1), event: no, code: 13},
		applied{name: "the slots are used, standing well", from: roomsOf(20, 5, 0, 1), event: yes, lines: post, change: let(0, 1, kept)},
		applied{name: "the slots are used, not endorsed", from: roomsOf(100, 5, 0, 1), event: no, code: 13},
		applied{name: "the slots are used, score below Good", from: roomsOf(19, 5, 0, 1), event: yes, code: 13},
		applied{name: "the slots are used, the least score", from: roomsOf(-100, 5, 0, 1), event: yes, code: 13},
		applied{name: "one general slot is left", from: roomsOf(-100, 4, 5, 1), event: no, lines: post, change: let(0, 1, few)},
		applied{name: "one slot is left, standing well", from: roomsOf(100, 5, 4, 1), event: yes, lines: post, change: let(0, 1, kept)},
		applied{name: "no slot is left", from: roomsOf(100, 5, 5, 1), event: yes, code: 13},
		applied{name: "no slot is left, all kept", from: roomsOf(100, 0, 10, 1), event: yes, code: 13},
		applied{name: "what doesn't go out by it takes no room", from: sized(back), event: no, lines: post, change: let(0, 1, few)},
		applied{name: "all that is left, standing well", from: roomsOf(20, 0, 9, 10), event: yes, lines: post, change: let(0, 1, few)},
	)
	// The score of To doesn't count, nor does what comes in by it.
	lookApplied(t,
		applied{name: "To stands well, Ch doesn't", from: changed(roomsOf(0, 5, 0, 1), func(b *impl.Book) { b.Chans[1].Score = 100 }), event: yes, code: 13},
		applied{name: "Ch stands well, To doesn't", from: changed(roomsOf(20, 5, 0, 1), func(b *impl.Book) { b.Chans[1].Score = -100 }), event: yes, lines: post, change: let(0, 1, kept)},
	)
}

// P13: the last place among MaxHtlcs, and none.
func TestP13ApplyAdmitFull(t *testing.T) {
	e := said("admit 900 1 4 5 no")
	beside := func(b impl.Book) impl.Book {
		b.Chans = append(b.Chans, peer(4, 50, 50))
		return sized(b)
	}
	lookApplied(t,
		applied{name: "the last place", from: beside(crowded(59, 20)), event: e, lines: lines(line(local(4), -5), line(underOut(4), 5)), change: let(0, 3, pay(900, 1, 4, 5, 5))},
		applied{name: "no place", from: beside(crowded(60, 0)), event: e, code: 14},
		applied{name: "no place, circles neither", from: beside(crowded(60, 20)), event: e, code: 14},
	)
}

// done is what ends a payment, but for where its amounts go.
func done(at int, change func(c []impl.Chan)) func(b *impl.Book) {
	return func(b *impl.Book) {
		b.Htlcs = slices.Delete(b.Htlcs, at, at+1)
		change(b.Chans)
	}
}

func TestP13ApplyFulfill(t *testing.T) {
	b := busy()
	scored := func(score int) impl.Book { return changed(b, func(b *impl.Book) { b.Chans[0].Score = score }) }
	with := func(score int) func(b *impl.Book) {
		return done(0, func(c []impl.Chan) { c[0].Local, c[0].Score, c[1].Remote = 308, score, 201 })
	}
	post := lines(line(income, -7), line(local(1), 108), line(underOut(2), -101))
	lookApplied(t,
		applied{name: "the first", from: b, event: said("fulfill 7"), lines: post, change: with(35)},
		applied{name: "for nothing, a kept one", from: b, event: said("fulfill 8"), lines: lines(line(local(2), 40), line(underOut(1), -40)), change: done(1, func(c []impl.Chan) { c[1].Local, c[1].Score, c[0].Remote = 440, 5, 340 })},
		applied{name: "the last", from: b, event: said("fulfill 1000"), lines: lines(line(income, -3), line(local(5), 33), line(underOut(1), -30)), change: done(2, func(c []impl.Chan) { c[2].Local, c[2].Score, c[0].Remote = 83, 10, 330 })},
		applied{name: "Score just to Best", from: scored(90), event: said("fulfill 7"), lines: post, change: with(100)},
		applied{name: "Score no more than Best", from: scored(91), event: said("fulfill 7"), lines: post, change: with(100)},
		applied{name: "Score of -Best", from: scored(-100), event: said("fulfill 7"), lines: post, change: with(-90)},
		applied{name: "whatever its Age", from: changed(b, func(b *impl.Book) { b.Htlcs[0].Age = top }), event: said("fulfill 7"), lines: post, change: with(35)},
		applied{name: "none", from: b, event: said("fulfill 9"), code: 15},
		applied{name: "the Key of a circle", from: b, event: said("fulfill 6"), code: 15},
		applied{name: "of nothing", from: impl.BookNew(), event: said("fulfill 1"), code: 15},
		applied{name: "no Id left", from: changed(b, func(b *impl.Book) { b.Next = top }), event: said("fulfill 7"), code: 2},
		applied{name: "the last Id", from: changed(b, func(b *impl.Book) { b.Next = top - 1 }), event: said("fulfill 7"), lines: post, change: with(35)},
		applied{name: "not right", from: b, event: impl.Event{Kind: impl.EvFulfill, Key: 7, Ch: 1}, code: 1},
	)
}

func TestP13ApplyFail(t *testing.T) {
	b := busy()
	scored := func(score int) impl.Book { return changed(b, func(b *impl.Book) { b.Chans[0].Score = score }) }
	with := func(score int) func(b *impl.Book) {
		return done(0, func(c []impl.Chan) { c[0].Remote, c[0].Score, c[1].Local = 408, score, 501 })
	}
	post := lines(line(local(2), 101), line(underOut(2), -101))
	lookApplied(t,
		applied{name: "the first", from: b, event: said("fail 7"), lines: post, change: with(10)},
		applied{name: "a kept one", from: b, event: said("fail 8"), lines: lines(line(local(1), 40), line(underOut(1), -40)), change: done(1, func(c []impl.Chan) { c[1].Remote, c[1].Score, c[0].Local = 140, -20, 240 })},
		applied{name: "the last", from: b, event: said("fail 1000"), lines: lines(line(local(1), 30), line(underOut(1), -30)), change: done(2, func(c []impl.Chan) { c[2].Remote, c[2].Score, c[0].Local = 93, -15, 230 })},
		applied{name: "Score just to -Best", from: scored(-85), event: said("fail 7"), lines: post, change: with(-100)},
		applied{name: "Score no less than -Best", from: scored(-86), event: said("fail 7"), lines: post, change: with(-100)},
		applied{name: "Score of Best", from: scored(100), event: said("fail 7"), lines: post, change: with(85)},
		applied{name: "none", from: b, event: said("fail 9"), code: 15},
		applied{name: "the Key of a circle", from: b, event: said("fail 500"), code: 15},
		applied{name: "of nothing", from: impl.BookNew(), event: said("fail 1"), code: 15},
		applied{name: "no Id left", from: changed(b, func(b *impl.Book) { b.Next = top }), event: said("fail 7"), code: 2},
		applied{name: "not right", from: b, event: impl.Event{Kind: impl.EvFail, Key: 0}, code: 1},
	)
}
