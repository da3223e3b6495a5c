package tests

import (
	"math/big"
	"slices"
	"testing"

	"loop.example/g00400/impl"
)

// What the chapter says of the book, by itself: the codes as a table of what holds, the postings as sums by account.

func wantUnder(b impl.Book, ch int) (int, int) {
	out, in := 0, 0
	for _, h := range b.Htlcs {
		out += map[int]int{h.Out: h.AmtOut}[ch]
		in += map[int]int{h.In: h.AmtIn}[ch]
	}
	for _, c := range b.Circles {
		out += map[int]int{c.From: c.Amt + c.Fee}[ch]
		in += map[int]int{c.To: c.Amt}[ch]
	}
	return out, in
}

// wantSize is the sum of all that a channel has, as if ints had no end.
func wantSize(b impl.Book, c impl.Chan) *big.Int {
	sum := new(big.Int)
	add := func(of bool, n int) {
		if of {
			sum.Add(sum, big.NewInt(int64(n)))
		}
	}
	add(true, c.Local)
	add(true, c.Remote)
	for _, h := range b.Htlcs {
		add(h.Out == c.Id, h.AmtOut)
		add(h.In == c.Id, h.AmtIn)
	}
	for _, x := range b.Circles {
		add(x.From == c.Id, x.Amt)
		add(x.From == c.Id, x.Fee)
		add(x.To == c.Id, x.Amt)
	}
	return sum
}

func wantBookOk(b impl.Book) bool {
	ok := isAmt(b.Tick) && isAmt(b.Wallet) && b.Next >= 1 && b.Next <= top
	ok = ok && len(b.Chans) <= 20 && len(b.Htlcs) <= 60 && len(b.Circles) <= 20
	ids, keys := map[int]int{}, map[int]int{}
	last := 0
	for _, c := range b.Chans {
		ok = ok && c.Id > last && c.Id <= 99 && isAmt(c.Local) && isAmt(c.Remote) && isAmt(c.Base) && isAmt(c.Size)
		ok = ok && c.Ppm >= 0 && c.Ppm <= 1000000 && c.Score >= -100 && c.Score <= 100
		ok = ok && wantSize(b, c).Cmp(big.NewInt(int64(c.Size))) == 0
		last = c.Id
		ids[c.Id]++
	}
	for _, h := range b.Htlcs {
		ok = ok && ids[h.In] == 1 && ids[h.Out] == 1 && h.In != h.Out && h.AmtOut >= 1 && h.AmtIn >= h.AmtOut && isAmt(h.Age)
		keys[h.Key]++
	}
	for _, c := range b.Circles {
		ok = ok && ids[c.From] == 1 && ids[c.To] == 1 && c.From != c.To && c.Amt >= 1 && isAmt(c.Fee)
		keys[c.Key]++
	}
	for key, n := range keys {
		ok = ok && n == 1 && key >= 1 && key <= 1000000
	}
	return ok
}

// wantOrder has for each kind the codes behind 1 and 2 in the order in which they are looked for.
var wantOrder = map[int][]int{
	impl.EvDeposit: {}, impl.EvOpen: {3, 4}, impl.EvClose: {6, 7, 8}, impl.EvPrice: {6},
	impl.EvAdmit: {9, 6, 14, 10, 11, 12, 13}, impl.EvFulfill: {15}, impl.EvFail: {15}, impl.EvTick: {},
	impl.EvLaunch: {9, 6, 14, 10, 12, 11}, impl.EvArrive: {15}, impl.EvLost: {15},
}

func chanIn(b impl.Book, ch int) (impl.Chan, bool) {
	for _, c := range b.Chans {
		if c.Id == ch {
			return c, true
		}
	}
	return impl.Chan{}, false
}

// wantHolds tells whether what the chapter says of a code is so, whatever other code holds.
func wantHolds(b impl.Book, e impl.Event, code int) bool {
	at, there := chanIn(b, e.Ch)
	to, toThere := chanIn(b, e.To)
	two := e.Kind == impl.EvAdmit || e.Kind == impl.EvLaunch
	hasHtlc := slices.ContainsFunc(b.Htlcs, func(h impl.Htlc) bool { return h.Key == e.Key })
	hasCircle := slices.ContainsFunc(b.Circles, func(c impl.Circle) bool { return c.Key == e.Key })
	switch code {
	case 2:
		return b.Next == top || wantPast(b, e)
	case 3:
		return there || len(b.Chans) == 20
	case 4:
		return b.Wallet < e.Amt
	case 6:
		return !there || two && !toThere
	case 7:
		out, in := wantUnder(b, e.Ch)
		return out > 0 || in > 0
	case 8:
		return e.Fee > at.Local
	case 9:
		return hasHtlc || hasCircle
	case 10, 11, 12:
		return wantShort(e, at, to, code)
	case 13:
		return wantPlace(b, to, e.Amt).wantAllow(e.Yes && at.Score >= 20) == 0
	case 14:
		return e.Kind == impl.EvAdmit && len(b.Htlcs) == 60 || e.Kind == impl.EvLaunch && len(b.Circles) == 20
	case 15:
		if e.Kind == impl.EvFulfill || e.Kind == impl.EvFail {
			return !hasHtlc
		}
		return !hasCircle
	}
	return false
}

func wantPast(b impl.Book, e impl.Event) bool {
	switch e.Kind {
	case impl.EvDeposit:
		return b.Wallet+e.Amt > top
	case impl.EvOpen:
		return e.Amt+e.Fee > top
	case impl.EvClose:
		c, there := chanIn(b, e.Ch)
		return there && b.Wallet+c.Local-e.Fee > top
	}
	return e.Kind == impl.EvTick && b.Tick == top
}

// wantAmtIn is past every amount where it is none.
func wantAmtIn(to impl.Chan, amt int) int {
	fee, ok := wantFee(to.Base, to.Ppm, amt, true)
	if !ok {
		return greatestInt
	}
	return amt + fee
}

func wantShort(e impl.Event, at impl.Chan, to impl.Chan, code int) bool {
	remote, in, ours, out := to.Remote, e.Amt, at.Local, e.Amt+e.Fee
	if e.Kind == impl.EvAdmit {
		remote, in, ours, out = at.Remote, wantAmtIn(to, e.Amt), to.Local, e.Amt
	}
	return code == 10 && max(in, out) > top || code == 11 && remote < in || code == 12 && ours < out
}

func wantPlace(b impl.Book, c impl.Chan, amt int) place {
	p := place{size: c.Size, amt: amt}
	for _, h := range b.Htlcs {
		if h.Out != c.Id {
			continue
		}
		p.usedAll, p.slotsAll = p.usedAll+h.AmtOut, p.slotsAll+1
		if !h.Kept {
			p.usedFew, p.slotsFew = p.usedFew+h.AmtOut, p.slotsFew+1
		}
	}
	return p
}

// wantHolding are all codes that hold, in the order in which they are looked for.
func wantHolding(b impl.Book, e impl.Event) []int {
	var l []int
	if !wantBookOk(b) || !wantEventOk(e) {
		l = append(l, 1)
	}
	for _, code := range append([]int{2}, wantOrder[e.Kind]...) {
		if wantHolds(b, e, code) {
			l = append(l, code)
		}
	}
	return l
}

func wantApply(b impl.Book, e impl.Event) (impl.Book, impl.Posting, int) {
	if l := wantHolding(b, e); len(l) > 0 {
		return impl.Book{}, impl.Posting{}, l[0]
	}
	after := copyOfBook(b)
	sums := map[impl.Acc]int{}
	wantEffect(&after, e, sums)
	p := impl.Posting{Id: b.Next}
	for _, a := range allAccs() {
		if sums[a] != 0 {
			p.Lines = append(p.Lines, line(a, sums[a]))
		}
	}
	if len(p.Lines) == 0 {
		return after, impl.Posting{}, 0
	}
	after.Next++
	return after, p, 0
}

func wantEffect(b *impl.Book, e impl.Event, sums map[impl.Acc]int) {
	switch e.Kind {
	case impl.EvDeposit:
		b.Wallet += e.Amt
		sums[wallet], sums[equity] = e.Amt, -e.Amt
	case impl.EvOpen:
		at := 0
		for at < len(b.Chans) && b.Chans[at].Id < e.Ch {
			at++
		}
		b.Chans = slices.Insert(b.Chans, at, impl.Chan{Id: e.Ch, Size: e.Amt + e.Fee, Local: e.Amt, Remote: e.Fee})
		b.Wallet -= e.Amt
		sums[wallet], sums[local(e.Ch)] = -e.Amt, e.Amt
	case impl.EvClose:
		c, _ := chanIn(*b, e.Ch)
		b.Chans = slices.DeleteFunc(b.Chans, func(c impl.Chan) bool { return c.Id == e.Ch })
		b.Wallet += c.Local - e.Fee
		sums[wallet], sums[chain], sums[local(e.Ch)] = c.Local-e.Fee, e.Fee, -c.Local
	case impl.EvPrice:
		wantMove(b, e.Ch, func(c *impl.Chan) { c.Base, c.Ppm = e.Amt, e.Fee })
	case impl.EvAdmit:
		to, _ := chanIn(*b, e.To)
		at, _ := chanIn(*b, e.Ch)
		h := pay(e.Key, e.Ch, e.To, wantAmtIn(to, e.Amt), e.Amt)
		h.Kept = wantPlace(*b, to, e.Amt).wantAllow(e.Yes && at.Score >= 20) == 2
		b.Htlcs = append(b.Htlcs, h)
		wantMove(b, e.Ch, func(c *impl.Chan) { c.Remote -= h.AmtIn })
		wantMove(b, e.To, func(c *impl.Chan) { c.Local -= e.Amt })
		sums[local(e.To)], sums[underOut(e.To)] = -e.Amt, e.Amt
	case impl.EvTick:
		wantTick(b)
	case impl.EvLaunch:
		both := e.Amt + e.Fee
		b.Circles = append(b.Circles, circle(e.Key, e.Ch, e.To, e.Amt, e.Fee))
		wantMove(b, e.Ch, func(c *impl.Chan) { c.Local -= both })
		wantMove(b, e.To, func(c *impl.Chan) { c.Remote -= e.Amt })
		sums[local(e.Ch)], sums[underOut(e.Ch)] = -both, both
	case impl.EvFulfill, impl.EvFail:
		wantPaid(b, e, sums)
	case impl.EvArrive, impl.EvLost:
		wantRound(b, e, sums)
	}
}

func wantMove(b *impl.Book, ch int, move func(c *impl.Chan)) {
	for i := range b.Chans {
		if b.Chans[i].Id == ch {
			move(&b.Chans[i])
		}
	}
}

func wantTick(b *impl.Book) {
	b.Tick++
	for i, h := range b.Htlcs {
		if h.Age < top {
			b.Htlcs[i].Age = h.Age + 1
		}
	}
	for i, c := range b.Chans {
		if b.Tick%5 == 0 && c.Score != 0 {
			b.Chans[i].Score -= c.Score / max(c.Score, -c.Score)
		}
	}
}

func wantPaid(b *impl.Book, e impl.Event, sums map[impl.Acc]int) {
	at := slices.IndexFunc(b.Htlcs, func(h impl.Htlc) bool { return h.Key == e.Key })
	h := b.Htlcs[at]
	b.Htlcs = slices.Delete(b.Htlcs, at, at+1)
	sums[underOut(h.Out)] = -h.AmtOut
	if e.Kind == impl.EvFail {
		wantMove(b, h.In, func(c *impl.Chan) { c.Remote, c.Score = c.Remote+h.AmtIn, max(c.Score-15, -100) })
		wantMove(b, h.Out, func(c *impl.Chan) { c.Local += h.AmtOut })
		sums[local(h.Out)] = h.AmtOut
		return
	}
	wantMove(b, h.In, func(c *impl.Chan) { c.Local, c.Score = c.Local+h.AmtIn, min(c.Score+10, 100) })
	wantMove(b, h.Out, func(c *impl.Chan) { c.Remote += h.AmtOut })
	sums[income], sums[local(h.In)] = h.AmtOut-h.AmtIn, h.AmtIn
}

func wantRound(b *impl.Book, e impl.Event, sums map[impl.Acc]int) {
	at := slices.IndexFunc(b.Circles, func(c impl.Circle) bool { return c.Key == e.Key })
	x := b.Circles[at]
	b.Circles = slices.Delete(b.Circles, at, at+1)
	sums[underOut(x.From)] = -x.Amt - x.Fee
	if e.Kind == impl.EvLost {
		wantMove(b, x.From, func(c *impl.Chan) { c.Local += x.Amt + x.Fee })
		wantMove(b, x.To, func(c *impl.Chan) { c.Remote += x.Amt })
		sums[local(x.From)] = x.Amt + x.Fee
		return
	}
	wantMove(b, x.From, func(c *impl.Chan) { c.Remote += x.Amt + x.Fee })
	wantMove(b, x.To, func(c *impl.Chan) { c.Local += x.Amt })
	sums[rebal], sums[local(x.To)] = x.Fee, x.Amt
}

func wantAgrees(b impl.Book, l impl.Ledger) bool {
	if !wantBookOk(b) || !impl.LedgerOk(l) || l.Last != b.Next-1 {
		return false
	}
	want := map[impl.Acc]int{wallet: b.Wallet}
	for _, c := range b.Chans {
		want[local(c.Id)] = c.Local
		want[underOut(c.Id)], _ = wantUnder(b, c.Id)
	}
	for _, a := range allAccs() {
		free := a == equity || a == income || a == rebal || a == chain
		if !free && impl.Balance(l, a) != want[a] {
			return false
		}
	}
	return true
}

// lookApply holds Apply of a book, right or not, against what the tests reckon themselves, and tells what it answers.
func lookApply(t *testing.T, b impl.Book, e impl.Event) (impl.Book, impl.Posting, int) {
	t.Helper()
	want, post, code := wantApply(b, e)
	was := copyOfBook(b)
	got, p, n := impl.Apply(b, e)
	if !sameBook(got, want) || !samePosting(p, post) || n != code {
		t.Errorf("Apply of %+v to %+v\n got %+v, %+v, %d\nwant %+v, %+v, %d", e, b, got, p, n, want, post, code)
	}
	if !sameBook(b, was) {
		t.Errorf("Apply of %+v changes the book to %+v from %+v", e, b, was)
	}
	return got, p, n
}
