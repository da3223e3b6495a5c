package tests

import (
	"slices"
	"testing"

	"loop.example/g00400/impl"
)

// said is the event of a text, which must be one.
func said(s string) impl.Event {
	e, ok := impl.TextEvent(s)
	if !ok {
		panic("no event: " + s)
	}
	return e
}

func saidAll(texts ...string) []impl.Event {
	var l []impl.Event
	for _, s := range texts {
		l = append(l, said(s))
	}
	return l
}

// peer is a channel that costs nothing and has no score.
func peer(id int, ours int, theirs int) impl.Chan {
	return impl.Chan{Id: id, Local: ours, Remote: theirs}
}

func priced(id int, ours int, theirs int, base int, ppm int, score int) impl.Chan {
	return impl.Chan{Id: id, Local: ours, Remote: theirs, Base: base, Ppm: ppm, Score: score}
}

func pay(key int, in int, out int, amtIn int, amtOut int) impl.Htlc {
	return impl.Htlc{Key: key, In: in, Out: out, AmtIn: amtIn, AmtOut: amtOut}
}

func keptPay(key int, in int, out int, amtIn int, amtOut int, age int) impl.Htlc {
	return impl.Htlc{Key: key, In: in, Out: out, AmtIn: amtIn, AmtOut: amtOut, Kept: true, Age: age}
}

func circle(key int, from int, to int, amt int, fee int) impl.Circle {
	return impl.Circle{Key: key, From: from, To: to, Amt: amt, Fee: fee}
}

func chans(l ...impl.Chan) []impl.Chan { return l }

func htlcs(l ...impl.Htlc) []impl.Htlc { return l }

func circles(l ...impl.Circle) []impl.Circle { return l }

// sized is b with every Size what it must be.
func sized(b impl.Book) impl.Book {
	b = copyOfBook(b)
	for i, c := range b.Chans {
		out, in := wantUnder(b, c.Id)
		b.Chans[i].Size = c.Local + c.Remote + out + in
	}
	return b
}

// changed is b with one thing changed; the Sizes stay.
func changed(b impl.Book, change func(b *impl.Book)) impl.Book {
	b = copyOfBook(b)
	change(&b)
	return b
}

// busy has some of everything. Of channel 9 the hub has nothing, channels 9 and 12 are not in use, and channel 1 stands well.
func busy() impl.Book {
	return sized(impl.Book{
		Tick: 3, Next: 44, Wallet: 500,
		Chans: chans(
			priced(1, 200, 300, 0, 0, 25), priced(2, 400, 100, 1, 50000, -5), priced(5, 50, 60, 3, 0, 0),
			priced(9, 0, 30, 0, 0, 100), priced(12, 70, 0, 0, 1000000, -100)),
		Htlcs:   htlcs(pay(7, 1, 2, 108, 101), keptPay(8, 2, 1, 40, 40, 6), pay(1000, 5, 1, 33, 30)),
		Circles: circles(circle(6, 2, 5, 20, 3), circle(500, 5, 1, 9, 0)),
	})
}

// manyChans are n channels with rising Ids up to MaxChan.
func manyChans(n int, ours int, theirs int) []impl.Chan {
	var l []impl.Chan
	for i := range n {
		l = append(l, peer(99-n+1+i, ours, theirs))
	}
	return l
}

// manyHtlcs go round among the channels 1, 2 and 3, by rising keys.
func manyHtlcs(n int) []impl.Htlc {
	var l []impl.Htlc
	for i := range n {
		l = append(l, impl.Htlc{Key: i + 1, In: 1 + i%3, Out: 1 + (i+1)%3, AmtIn: i + 3, AmtOut: i + 1, Kept: i%2 == 0, Age: i})
	}
	return l
}

// manyCircles go round likewise, by falling keys.
func manyCircles(n int) []impl.Circle {
	var l []impl.Circle
	for i := range n {
		l = append(l, circle(1000000-i, 1+i%3, 1+(i+2)%3, i+1, i))
	}
	return l
}

// crowded has three channels, and as many payments and circles as told.
func crowded(payments int, around int) impl.Book {
	return sized(impl.Book{Next: 100, Wallet: 50, Chans: chans(peer(1, 900, 900), peer(2, 900, 900), peer(3, 900, 900)),
		Htlcs: manyHtlcs(payments), Circles: manyCircles(around)})
}

func copyOfBook(b impl.Book) impl.Book {
	b.Chans, b.Htlcs, b.Circles = slices.Clone(b.Chans), slices.Clone(b.Htlcs), slices.Clone(b.Circles)
	return b
}

// roomy is b with spare room behind each of its lists, in which something stands.
func roomy(b impl.Book) impl.Book {
	return impl.Book{Tick: b.Tick, Next: b.Next, Wallet: b.Wallet, Chans: withSpare(b.Chans, peer(-7, -7, -7)),
		Htlcs: withSpare(b.Htlcs, pay(-7, -7, -7, -7, -7)), Circles: withSpare(b.Circles, circle(-7, -7, -7, -7, -7))}
}

func withSpare[T any](l []T, mark T) []T {
	long := append(slices.Clone(l), mark, mark, mark)
	return long[:len(l)]
}

func sameBook(a impl.Book, b impl.Book) bool {
	return a.Tick == b.Tick && a.Next == b.Next && a.Wallet == b.Wallet &&
		slices.Equal(a.Chans, b.Chans) && slices.Equal(a.Htlcs, b.Htlcs) && slices.Equal(a.Circles, b.Circles)
}

// sameRoom looks at the spare room too.
func sameRoom(a impl.Book, b impl.Book) bool {
	a.Chans, b.Chans = a.Chans[:cap(a.Chans)], b.Chans[:cap(b.Chans)]
	a.Htlcs, b.Htlcs = a.Htlcs[:cap(a.Htlcs)], b.Htlcs[:cap(b.Htlcs)]
	a.Circles, b.Circles = a.Circles[:cap(a.Circles)], b.Circles[:cap(b.Circles)]
	return sameBook(a, b)
}

// blotBook writes over the whole of a book, spare room too, to show what it shares.
func blotBook(b impl.Book) {
	blotList(b.Chans, peer(-3, -3, -3))
	blotList(b.Htlcs, pay(-3, -3, -3, -3, -3))
	blotList(b.Circles, circle(-3, -3, -3, -3, -3))
}

func blotList[T any](l []T, mark T) {
	l = l[:cap(l)]
	for i := range l {
		l[i] = mark
	}
}

// A case of Apply: from is the book, and change what the event makes of it beside Next, if the code is 0.
type applied struct {
	name   string
	from   impl.Book
	event  impl.Event
	code   int
	lines  []impl.Line
	change func(b *impl.Book)
}

func (c applied) want() (impl.Book, impl.Posting, int) {
	if c.code != 0 {
		return impl.Book{}, impl.Posting{}, c.code
	}
	b, p := copyOfBook(c.from), impl.Posting{}
	if len(c.lines) > 0 {
		p = posting(b.Next, c.lines...)
		b.Next++
	}
	c.change(&b)
	return b, p, 0
}

// lookApplied holds Apply against the told answer, and so the answer that the tests reckon themselves.
func lookApplied(t *testing.T, cases ...applied) {
	t.Helper()
	for _, c := range cases {
		want, post, code := c.want()
		if b, p, n := wantApply(c.from, c.event); !sameBook(b, want) || !samePosting(p, post) || n != code {
			t.Errorf("%s: the tests reckon %+v, %+v, %d; told is %+v, %+v, %d", c.name, b, p, n, want, post, code)
		}
		given := roomy(c.from)
		got, p, n := impl.Apply(given, c.event)
		if !sameBook(got, want) || !samePosting(p, post) || n != code {
			t.Errorf("%s: Apply of %+v\n got %+v, %+v, %d\nwant %+v, %+v, %d", c.name, c.event, got, p, n, want, post, code)
		}
		if n == 0 && !impl.BookOk(got) {
			t.Errorf("%s: what comes isn't right: %+v", c.name, got)
		}
		blotBook(got)
		scribble(p.Lines)
		if !sameRoom(given, roomy(c.from)) {
			t.Errorf("%s: the book is changed or shared: %+v", c.name, given)
		}
	}
}
