package tests

import (
	"testing"

	"loop.example/g00400/impl"
)

// lookSame holds SameBook of both, either way round, against the told answer, and looks that it keeps its hands off them.
func lookSame(t *testing.T, name string, a impl.Book, b impl.Book, want bool) {
	t.Helper()
	one, other := roomy(a), roomy(b)
	if impl.SameBook(one, other) != want || impl.SameBook(other, one) != want {
		t.Errorf("%s: SameBook is %v, the other way round %v: %+v, %+v", name, impl.SameBook(one, other), impl.SameBook(other, one), a, b)
	}
	if !sameRoom(one, roomy(a)) || !sameRoom(other, roomy(b)) {
		t.Errorf("%s: a book is changed", name)
	}
}

// P13: every right book is the same as itself and as no other one.
func TestP13SameBook(t *testing.T) {
	books := rightBooks()
	for name, a := range books {
		for other, b := range books {
			lookSame(t, name+", "+other, a, b, sameBook(a, b))
		}
		if !impl.SameBook(a, a) || !impl.SameBook(a, copyOfBook(a)) {
			t.Errorf("%s isn't the same as itself", name)
		}
	}
}

// P13: a list that is nil and one that is empty are the same.
func TestP13SameBookOfEmptyLists(t *testing.T) {
	b := impl.Book{Tick: 4, Next: 9, Wallet: 7}
	lookSame(t, "nil and empty", b, impl.Book{Tick: 4, Next: 9, Wallet: 7, Chans: []impl.Chan{}, Htlcs: []impl.Htlc{}, Circles: []impl.Circle{}}, true)
	lookSame(t, "of another Tick", b, impl.Book{Tick: 5, Next: 9, Wallet: 7}, false)
	lookSame(t, "of another Next", b, impl.Book{Tick: 4, Next: 8, Wallet: 7}, false)
	lookSame(t, "of another Wallet", b, impl.Book{Tick: 4, Next: 9, Wallet: 8}, false)
}

// P13: books that aren't right are the same as none, not even as themselves.
func TestP13SameBookNotRight(t *testing.T) {
	for name, b := range wrongBooks() {
		lookSame(t, name+", itself", b, copyOfBook(b), false)
		lookSame(t, name+", new", b, impl.BookNew(), false)
		lookSame(t, name+", busy", b, busy(), false)
	}
	lookSame(t, "nothing twice", impl.Book{}, impl.Book{}, false)
}

// P13: one number changed, with the Sizes that fit: where the book is right still, it is another one.
func TestP13SameBookEachNumber(t *testing.T) {
	right, wrong := 0, 0
	for name, from := range map[string]impl.Book{"busy": busy(), "crowded": crowded(4, 3), "one channel": sized(impl.Book{Next: 5, Chans: chans(peer(50, 5, 6))})} {
		for i := range bookFields(&from) {
			for _, more := range []int{-1, 1, 3, 1 << 32} {
				b := copyOfBook(from)
				*bookFields(&b)[i] += more
				for _, b := range []impl.Book{b, sized(b)} {
					ok := wantBookOk(b)
					lookSame(t, name+", a number changed", from, b, ok && sameBook(from, b))
					lookSame(t, name+", both", b, copyOfBook(b), ok)
					if ok {
						right++
					} else {
						wrong++
					}
				}
			}
		}
	}
	if min(right, wrong) < 50 {
		t.Errorf("%d right, %d wrong: the test looks at too few", right, wrong)
	}
}

// P13: one thing changed that isn't a number.
func TestP13SameBookOtherChanges(t *testing.T) {
	b := busy()
	for name, change := range map[string]func(b *impl.Book){
		"the first is kept":         func(b *impl.Book) { b.Htlcs[0].Kept = true },
		"the second isn't kept":     func(b *impl.Book) { b.Htlcs[1].Kept = false },
		"the last is kept":          func(b *impl.Book) { b.Htlcs[2].Kept = true },
		"payments exchanged":        func(b *impl.Book) { b.Htlcs[0], b.Htlcs[2] = b.Htlcs[2], b.Htlcs[0] },
		"circles exchanged":         func(b *impl.Book) { b.Circles[0], b.Circles[1] = b.Circles[1], b.Circles[0] },
		"without the last payment":  func(b *impl.Book) { b.Htlcs = b.Htlcs[:2] },
		"without the first payment": func(b *impl.Book) { b.Htlcs = b.Htlcs[1:] },
		"without the last circle":   func(b *impl.Book) { b.Circles = b.Circles[:1] },
		"without the last channel":  func(b *impl.Book) { b.Chans = b.Chans[:4] },
		"without a free channel":    func(b *impl.Book) { b.Chans = append(b.Chans[:3], b.Chans[4]) },
		"a channel more":            func(b *impl.Book) { b.Chans = append(b.Chans, peer(13, 0, 0)) },
		"without payments":          func(b *impl.Book) { b.Htlcs = nil },
		"without circles":           func(b *impl.Book) { b.Circles = nil },
	} {
		after := sized(changed(b, change))
		if !impl.BookOk(after) {
			t.Errorf("%s: the test's book isn't right", name)
		}
		lookSame(t, name, b, after, false)
		lookSame(t, name+", both", after, copyOfBook(after), true)
	}
}

// P13: of two that differ in one thing only, one isn't right.
func TestP13SameBookHalfRight(t *testing.T) {
	for name, change := range wrongChanges() {
		lookSame(t, name, busy(), changed(busy(), change), false)
	}
}
