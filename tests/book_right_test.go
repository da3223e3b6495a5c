package tests

import (
	"testing"

	"loop.example/g00400/impl"
)

// rightBooks are right, each at some edge of the chapter.
func rightBooks() map[string]impl.Book {
	pair := sized(impl.Book{Next: 1, Chans: chans(peer(1, 0, 0), peer(99, 0, 0))})
	three := crowded(2, 2)
	return map[string]impl.Book{
		"new":                       {Next: 1},
		"new, not nil":              {Next: 1, Chans: []impl.Chan{}, Htlcs: []impl.Htlc{}, Circles: []impl.Circle{}},
		"busy":                      busy(),
		"Tick 1":                    {Tick: 1, Next: 1},
		"Tick MaxAmt":               {Tick: top, Next: 1},
		"Wallet 1":                  {Next: 1, Wallet: 1},
		"Wallet MaxAmt":             {Next: 1, Wallet: top},
		"Next 2":                    {Next: 2},
		"Next MaxAmt less 1":        {Next: top - 1},
		"Next MaxAmt":               {Next: top},
		"all at MaxAmt":             {Tick: top, Next: top, Wallet: top},
		"one channel":               sized(impl.Book{Next: 1, Chans: chans(peer(50, 5, 6))}),
		"Ids 1 and MaxChan":         pair,
		"MaxChans less 1 channels":  sized(impl.Book{Next: 1, Wallet: 9, Chans: manyChans(19, 4, 5)}),
		"MaxChans channels":         sized(impl.Book{Next: 1, Wallet: 9, Chans: manyChans(20, 4, 5)}),
		"Size MaxAmt, all ours":     sized(impl.Book{Next: 1, Chans: chans(peer(1, top, 0))}),
		"Size MaxAmt, all theirs":   sized(impl.Book{Next: 1, Chans: chans(peer(1, 0, top))}),
		"Size MaxAmt, halves":       sized(impl.Book{Next: 1, Chans: chans(peer(1, top/2, top/2))}),
		"Size MaxAmt in parts":      sized(impl.Book{Next: 1, Chans: chans(peer(1, 1, 2), peer(2, 3, 0)), Htlcs: htlcs(pay(1, 1, 2, top-8, 7)), Circles: circles(circle(2, 2, 1, 5, 100))}),
		"Base MaxAmt, Ppm Million":  sized(impl.Book{Next: 1, Chans: chans(priced(1, 5, 5, top, 1000000, 0))}),
		"Score Best":                sized(impl.Book{Next: 1, Chans: chans(priced(1, 5, 5, 1, 1, 100))}),
		"Score -Best":               sized(impl.Book{Next: 1, Chans: chans(priced(1, 5, 5, 1, 1, -100))}),
		"MaxHtlcs less 1":           crowded(59, 0),
		"MaxHtlcs":                  crowded(60, 0),
		"MaxCircles less 1":         crowded(0, 19),
		"MaxCircles":                crowded(0, 20),
		"all there is":              crowded(60, 20),
		"Keys 1 and MaxKey":         sized(changed(three, func(b *impl.Book) { b.Htlcs[0].Key, b.Circles[0].Key = 1000000, 1 })),
		"Keys in no order":          sized(changed(three, func(b *impl.Book) { b.Htlcs[0].Key, b.Htlcs[1].Key, b.Circles[1].Key = 9, 3, 4 })),
		"AmtOut, AmtIn 1":           sized(changed(three, func(b *impl.Book) { b.Htlcs[0].AmtIn, b.Htlcs[0].AmtOut = 1, 1 })),
		"AmtIn is AmtOut":           sized(changed(three, func(b *impl.Book) { b.Htlcs[0].AmtIn, b.Htlcs[0].AmtOut = 40, 40 })),
		"AmtIn far above":           sized(changed(three, func(b *impl.Book) { b.Htlcs[0].AmtIn = top - 5000 })),
		"Amt 1, Fee 0":              sized(changed(three, func(b *impl.Book) { b.Circles[0].Amt, b.Circles[0].Fee = 1, 0 })),
		"Fee far above Amt":         sized(changed(three, func(b *impl.Book) { b.Circles[0].Fee = top - 5000 })),
		"Ages 0 and MaxAmt":         changed(three, func(b *impl.Book) { b.Htlcs[0].Age, b.Htlcs[1].Age = 0, top }),
		"Kept ones":                 changed(three, func(b *impl.Book) { b.Htlcs[0].Kept, b.Htlcs[1].Kept = true, true }),
		"more slots than MaxSlots":  sized(impl.Book{Next: 1, Chans: chans(peer(1, 5, 5), peer(2, 5, 5)), Htlcs: sameWay(30)}),
		"nothing but what is under": sized(impl.Book{Next: 1, Chans: chans(peer(1, 0, 0), peer(2, 0, 0)), Htlcs: sameWay(3)}),
	}
}

// sameWay are payments that all come in by channel 1 and go out by 2.
func sameWay(n int) []impl.Htlc {
	var l []impl.Htlc
	for i := range n {
		l = append(l, pay(i+1, 1, 2, 3, 2))
	}
	return l
}

// wrongBooks are wrong in one thing each, but for that they are right; what isn't a Size's fault has the Sizes that fit.
func wrongBooks() map[string]impl.Book {
	wrong := map[string]impl.Book{
		"nothing":                  {},
		"nothing, not nil":         {Chans: []impl.Chan{}, Htlcs: []impl.Htlc{}, Circles: []impl.Circle{}},
		"MaxChans and 1 channels":  sized(impl.Book{Next: 1, Chans: manyChans(21, 4, 5)}),
		"MaxChan channels":         sized(impl.Book{Next: 1, Chans: manyChans(99, 4, 5)}),
		"MaxHtlcs and 1":           crowded(61, 0),
		"MaxCircles and 1":         crowded(0, 21),
		"many of all":              crowded(700, 300),
		"one more of both":         crowded(61, 21),
		"a payment, no channel":    {Next: 1, Htlcs: htlcs(pay(1, 1, 2, 1, 1))},
		"a circle, no channel":     {Next: 1, Circles: circles(circle(1, 1, 2, 1, 0))},
		"sums that wrap to 0":      wrapping(0),
		"sums that wrap to 7":      wrapping(7),
		"a Size that wraps":        {Next: 1, Chans: chans(impl.Chan{Id: 1, Size: -2, Local: greatestInt, Remote: greatestInt})},
		"a Size past the end":      sized(impl.Book{Next: 1, Chans: chans(peer(1, top, 1))}),
		"a Size of twice the most": sized(impl.Book{Next: 1, Chans: chans(peer(1, top, top))}),
		"a Size past it by what is under way": sized(impl.Book{Next: 1, Chans: chans(peer(1, 1, 2), peer(2, 3, 0)),
			Htlcs: htlcs(pay(1, 1, 2, top-7, 7)), Circles: circles(circle(2, 2, 1, 5, 100))}),
		"a Size past it by a Fee": sized(impl.Book{Next: 1, Chans: chans(peer(1, 0, 0), peer(2, 0, 0)), Circles: circles(circle(1, 1, 2, 1, top))}),
	}
	for name, change := range wrongChanges() {
		wrong[name] = changed(busy(), change)
	}
	for name, change := range wrongSizedChanges() {
		wrong[name] = sized(changed(busy(), change))
	}
	return wrong
}

// wrapping has payments whose AmtIns come to rest and nothing more, if one doesn't look at their ends: four times 2^62.
func wrapping(rest int) impl.Book {
	b := impl.Book{Next: 1, Chans: chans(impl.Chan{Id: 1, Size: rest, Remote: rest}, impl.Chan{Id: 2, Size: 4})}
	for i := range 4 {
		b.Htlcs = append(b.Htlcs, pay(i+1, 1, 2, 1<<62, 1))
	}
	return b
}

// wrongChanges leave the Sizes as they are.
func wrongChanges() map[string]func(b *impl.Book) {
	return map[string]func(b *impl.Book){
		"Tick -1":                       func(b *impl.Book) { b.Tick = -1 },
		"Tick MaxAmt and 1":             func(b *impl.Book) { b.Tick = top + 1 },
		"Tick the least int":            func(b *impl.Book) { b.Tick = leastInt },
		"Tick the greatest int":         func(b *impl.Book) { b.Tick = greatestInt },
		"Next 0":                        func(b *impl.Book) { b.Next = 0 },
		"Next -1":                       func(b *impl.Book) { b.Next = -1 },
		"Next MaxAmt and 1":             func(b *impl.Book) { b.Next = top + 1 },
		"Next the least int":            func(b *impl.Book) { b.Next = leastInt },
		"Next the greatest int":         func(b *impl.Book) { b.Next = greatestInt },
		"Wallet -1":                     func(b *impl.Book) { b.Wallet = -1 },
		"Wallet MaxAmt and 1":           func(b *impl.Book) { b.Wallet = top + 1 },
		"Wallet the least int":          func(b *impl.Book) { b.Wallet = leastInt },
		"Wallet the greatest int":       func(b *impl.Book) { b.Wallet = greatestInt },
		"a Size one above":              func(b *impl.Book) { b.Chans[0].Size++ },
		"a Size one below":              func(b *impl.Book) { b.Chans[4].Size-- },
		"a Size of Local and Remote":    func(b *impl.Book) { b.Chans[0].Size = b.Chans[0].Local + b.Chans[0].Remote },
		"a Size without the Fee":        func(b *impl.Book) { b.Chans[1].Size -= 3 },
		"a Size with the Fee at To":     func(b *impl.Book) { b.Chans[2].Size += 3 },
		"a Size with AmtOut for AmtIn":  func(b *impl.Book) { b.Chans[0].Size -= 7 },
		"Size 0":                        func(b *impl.Book) { b.Chans[3].Size = 0 },
		"Size -1":                       func(b *impl.Book) { b.Chans[3].Size = -1 },
		"Ids 1 and 0":                   func(b *impl.Book) { b.Chans[3].Id = 0 },
		"Ids fall":                      func(b *impl.Book) { b.Chans[3], b.Chans[4] = b.Chans[4], b.Chans[3] },
		"Ids fall at the beginning":     func(b *impl.Book) { b.Chans[0], b.Chans[1] = b.Chans[1], b.Chans[0] },
		"an Id twice":                   func(b *impl.Book) { b.Chans[4].Id = 9 },
		"an Id twice, the same channel": func(b *impl.Book) { b.Chans[4] = b.Chans[3] },
		"an Id MaxChan and 1":           func(b *impl.Book) { b.Chans[4].Id = 100 },
		"an Id the greatest int":        func(b *impl.Book) { b.Chans[4].Id = greatestInt },
		"Base -1":                       func(b *impl.Book) { b.Chans[0].Base = -1 },
		"Base MaxAmt and 1":             func(b *impl.Book) { b.Chans[4].Base = top + 1 },
		"Ppm -1":                        func(b *impl.Book) { b.Chans[0].Ppm = -1 },
		"Ppm Million and 1":             func(b *impl.Book) { b.Chans[4].Ppm = 1000001 },
		"Ppm MaxAmt":                    func(b *impl.Book) { b.Chans[4].Ppm = top },
		"Score Best and 1":              func(b *impl.Book) { b.Chans[0].Score = 101 },
		"Score -Best less 1":            func(b *impl.Book) { b.Chans[4].Score = -101 },
		"Score the least int":           func(b *impl.Book) { b.Chans[4].Score = leastInt },
		"Key 0 of a payment":            func(b *impl.Book) { b.Htlcs[0].Key = 0 },
		"Key -1 of a payment":           func(b *impl.Book) { b.Htlcs[2].Key = -1 },
		"Key MaxKey and 1 of a payment": func(b *impl.Book) { b.Htlcs[2].Key = 1000001 },
		"Key 0 of a circle":             func(b *impl.Book) { b.Circles[0].Key = 0 },
		"Key -1 of a circle":            func(b *impl.Book) { b.Circles[1].Key = -1 },
		"Key MaxKey and 1 of a circle":  func(b *impl.Book) { b.Circles[1].Key = 1000001 },
		"two payments of one Key":       func(b *impl.Book) { b.Htlcs[2].Key = 7 },
		"two circles of one Key":        func(b *impl.Book) { b.Circles[1].Key = 6 },
		"one Key of both":               func(b *impl.Book) { b.Circles[1].Key = 7 },
		"one Key of both, the last":     func(b *impl.Book) { b.Htlcs[2].Key = 500 },
		"Age -1":                        func(b *impl.Book) { b.Htlcs[0].Age = -1 },
		"Age MaxAmt and 1":              func(b *impl.Book) { b.Htlcs[2].Age = top + 1 },
		"Age the least int":             func(b *impl.Book) { b.Htlcs[2].Age = leastInt },
	}
}

// wrongSizedChanges are made ahead of reckoning the Sizes.
func wrongSizedChanges() map[string]func(b *impl.Book) {
	return map[string]func(b *impl.Book){
		"Local -1":                func(b *impl.Book) { b.Chans[3].Local = -1 },
		"Local MaxAmt and 1":      func(b *impl.Book) { b.Chans[3].Local, b.Chans[3].Remote = top+1, -1 },
		"Remote -1":               func(b *impl.Book) { b.Chans[4].Remote = -1 },
		"Remote MaxAmt and 1":     func(b *impl.Book) { b.Chans[4].Local, b.Chans[4].Remote = -1, top+1 },
		"AmtOut 0":                func(b *impl.Book) { b.Htlcs[0].AmtOut = 0 },
		"AmtOut -1":               func(b *impl.Book) { b.Htlcs[0].AmtOut = -1 },
		"AmtOut and AmtIn 0":      func(b *impl.Book) { b.Htlcs[1].AmtIn, b.Htlcs[1].AmtOut = 0, 0 },
		"AmtIn below AmtOut":      func(b *impl.Book) { b.Htlcs[0].AmtIn = 100 },
		"AmtIn 0":                 func(b *impl.Book) { b.Htlcs[2].AmtIn = 0 },
		"AmtIn MaxAmt and 1":      func(b *impl.Book) { b.Htlcs[2].AmtIn = top + 1 },
		"AmtIn the greatest int":  func(b *impl.Book) { b.Htlcs[2].AmtIn = greatestInt },
		"both the greatest int":   func(b *impl.Book) { b.Htlcs[2].AmtIn, b.Htlcs[2].AmtOut = greatestInt, greatestInt },
		"Amt 0":                   func(b *impl.Book) { b.Circles[0].Amt = 0 },
		"Amt -1":                  func(b *impl.Book) { b.Circles[1].Amt = -1 },
		"Amt MaxAmt and 1":        func(b *impl.Book) { b.Circles[1].Amt = top + 1 },
		"Amt the greatest int":    func(b *impl.Book) { b.Circles[1].Amt = greatestInt },
		"Fee -1":                  func(b *impl.Book) { b.Circles[0].Fee = -1 },
		"Fee MaxAmt and 1":        func(b *impl.Book) { b.Circles[0].Fee = top + 1 },
		"Fee the greatest int":    func(b *impl.Book) { b.Circles[0].Fee = greatestInt },
		"an In that is the Out":   func(b *impl.Book) { b.Htlcs[0].In = 2 },
		"an Out that is the In":   func(b *impl.Book) { b.Htlcs[2].Out = 5 },
		"a From that is the To":   func(b *impl.Book) { b.Circles[0].From = 5 },
		"a To that is the From":   func(b *impl.Book) { b.Circles[1].To = 5 },
		"an In that isn't there":  func(b *impl.Book) { b.Htlcs[0].In = 3 },
		"an Out that isn't there": func(b *impl.Book) { b.Htlcs[0].Out = 99 },
		"an In of 0":              func(b *impl.Book) { b.Htlcs[2].In = 0 },
		"an Out of 0":             func(b *impl.Book) { b.Htlcs[2].Out = 0 },
		"a From that isn't there": func(b *impl.Book) { b.Circles[0].From = 4 },
		"a To that isn't there":   func(b *impl.Book) { b.Circles[1].To = 13 },
		"a From of 0":             func(b *impl.Book) { b.Circles[1].From = 0 },
		"a To of 0":               func(b *impl.Book) { b.Circles[1].To = 0 },
		"a channel 0 in use": func(b *impl.Book) {
			b.Chans[0].Id, b.Htlcs[0].In, b.Htlcs[1].Out, b.Htlcs[2].Out, b.Circles[1].To = 0, 0, 0, 0, 0
		},
		"a channel 100 in use":      func(b *impl.Book) { b.Chans[4].Id, b.Htlcs[0].In = 100, 100 },
		"a channel that is gone":    func(b *impl.Book) { b.Chans = b.Chans[:2] },
		"no channel at all":         func(b *impl.Book) { b.Chans = nil },
		"the same channel 20 times": func(b *impl.Book) { b.Chans = sameChannel(20) },
	}
}

func sameChannel(n int) []impl.Chan {
	var l []impl.Chan
	for range n {
		l = append(l, peer(1, 5, 5))
	}
	return l
}

func TestP13BookConstants(t *testing.T) {
	if impl.MaxChans != 20 || impl.MaxHtlcs != 60 || impl.MaxCircles != 20 {
		t.Errorf("MaxChans %d, MaxHtlcs %d, MaxCircles %d", impl.MaxChans, impl.MaxHtlcs, impl.MaxCircles)
	}
}

func TestP13BookOk(t *testing.T) {
	for name, b := range rightBooks() {
		if !wantBookOk(b) || !impl.BookOk(b) {
			t.Errorf("%s: BookOk is %v, the tests reckon %v: %+v", name, impl.BookOk(b), wantBookOk(b), b)
		}
	}
	for name, b := range wrongBooks() {
		if wantBookOk(b) || impl.BookOk(b) {
			t.Errorf("%s: BookOk is %v, the tests reckon %v: %+v", name, impl.BookOk(b), wantBookOk(b), b)
		}
	}
}

// bookFields are all numbers of a book.
func bookFields(b *impl.Book) []*int {
	l := []*int{&b.Tick, &b.Next, &b.Wallet}
	for i := range b.Chans {
		c := &b.Chans[i]
		l = append(l, &c.Id, &c.Size, &c.Local, &c.Remote, &c.Base, &c.Ppm, &c.Score)
	}
	for i := range b.Htlcs {
		h := &b.Htlcs[i]
		l = append(l, &h.Key, &h.In, &h.Out, &h.AmtIn, &h.AmtOut, &h.Age)
	}
	for i := range b.Circles {
		c := &b.Circles[i]
		l = append(l, &c.Key, &c.From, &c.To, &c.Amt, &c.Fee)
	}
	return l
}

// P13: each number of a book at each edge, with the Sizes as they were and with those that fit.
func TestP13BookOkEachField(t *testing.T) {
	count := [2]int{}
	for name, from := range map[string]impl.Book{"busy": busy(), "crowded": crowded(4, 3), "one channel": sized(impl.Book{Next: 5, Chans: chans(peer(50, 5, 6))})} {
		for i := range bookFields(&from) {
			for _, n := range append(fieldEdges(), -100, -101, 101, 3, 4, 7, 8, 9, 13, 500, 501) {
				b := copyOfBook(from)
				*bookFields(&b)[i] = n
				for _, b := range []impl.Book{b, sized(b)} {
					want := wantBookOk(b)
					if got := impl.BookOk(b); got != want {
						t.Errorf("%s, number %d at %d: BookOk is %v: %+v", name, i, n, got, b)
					}
					count[map[bool]int{true: 1}[want]]++
				}
			}
		}
	}
	if min(count[0], count[1]) < 500 {
		t.Errorf("wrong and right books: %v: the test looks at too few", count)
	}
}

// P13: two numbers at once by chance, so that one wrong thing doesn't make up for another.
func TestP13BookOkByChance(t *testing.T) {
	d := dice(71)
	edge := append(fieldEdges(), -100, -101, 101, 3, 4, 7, 8, 9, 13, 500, 501)
	right := 0
	for range 30000 {
		b := []impl.Book{busy(), crowded(3, 3)}[d.below(2)]
		fields := bookFields(&b)
		for range 2 {
			field := fields[d.below(len(fields))]
			*field = []int{edge[d.below(len(edge))], *field + d.below(3) - 1, *fields[d.below(len(fields))]}[d.below(3)]
		}
		if d.below(2) == 0 {
			b = sized(b)
		}
		want := wantBookOk(b)
		if got := impl.BookOk(b); got != want {
			t.Fatalf("BookOk is %v: %+v", got, b)
		}
		if want {
			right++
		}
	}
	if right < 1000 {
		t.Errorf("%d right books: the test looks at too few", right)
	}
}

func TestP13BookNew(t *testing.T) {
	b := impl.BookNew()
	if !sameBook(b, impl.Book{Next: 1}) || !impl.BookOk(b) || !impl.Agrees(b, impl.Ledger{}) {
		t.Errorf("BookNew is %+v", b)
	}
	b.Chans, b.Next = append(b.Chans, peer(1, 2, 3)), 9
	if again := impl.BookNew(); !sameBook(again, impl.Book{Next: 1}) {
		t.Errorf("BookNew once more is %+v", again)
	}
}

func TestP13Pick(t *testing.T) {
	b := busy()
	for _, c := range []struct {
		ch   int
		want impl.Chan
		ok   bool
	}{
		{1, impl.Chan{Id: 1, Size: 687, Local: 200, Remote: 300, Score: 25}, true},
		{2, impl.Chan{Id: 2, Size: 664, Local: 400, Remote: 100, Base: 1, Ppm: 50000, Score: -5}, true},
		{5, impl.Chan{Id: 5, Size: 172, Local: 50, Remote: 60, Base: 3}, true},
		{9, impl.Chan{Id: 9, Size: 30, Remote: 30, Score: 100}, true},
		{12, impl.Chan{Id: 12, Size: 70, Local: 70, Ppm: 1000000, Score: -100}, true},
		{0, impl.Chan{}, false}, {-1, impl.Chan{}, false}, {3, impl.Chan{}, false}, {4, impl.Chan{}, false},
		{13, impl.Chan{}, false}, {99, impl.Chan{}, false}, {100, impl.Chan{}, false},
		{leastInt, impl.Chan{}, false}, {greatestInt, impl.Chan{}, false}, {1<<32 + 1, impl.Chan{}, false},
	} {
		if got, ok := impl.Pick(b, c.ch); got != c.want || ok != c.ok {
			t.Errorf("Pick of %d = %+v, %v; want %+v, %v", c.ch, got, ok, c.want, c.ok)
		}
	}
	if !sameBook(b, busy()) {
		t.Error("Pick changes the book")
	}
}

// P13: Pick of every number of every book; of one that isn't right nothing, though the channel is there.
func TestP13PickEach(t *testing.T) {
	for name, b := range rightBooks() {
		for ch := -1; ch <= 101; ch++ {
			want, there := chanIn(b, ch)
			if got, ok := impl.Pick(b, ch); got != want || ok != there {
				t.Errorf("%s: Pick of %d = %+v, %v", name, ch, got, ok)
			}
		}
	}
	for name, b := range wrongBooks() {
		for ch := -1; ch <= 101; ch++ {
			if got, ok := impl.Pick(b, ch); got != (impl.Chan{}) || ok {
				t.Errorf("%s: Pick of %d = %+v, %v", name, ch, got, ok)
			}
		}
	}
}
