package tests

import (
	"slices"
	"testing"

	"loop.example/g00400/impl"
)

// P13: lines that are right, and those that a ledger has wrong.
func TestP13LinesOk(t *testing.T) {
	for name, l := range map[string][]impl.Line{
		"nil":                    nil,
		"empty":                  {},
		"two":                    lines(line(wallet, 5), line(equity, -5)),
		"two kinds":              lines(line(equity, -5), line(local(3), 5)),
		"two channels":           lines(line(local(1), -5), line(local(2), 5)),
		"first and last channel": lines(line(local(1), -5), line(local(99), 5)),
		"channel falls as kind rises": lines(line(local(99), -5),
			line(underIn(1), 5)),
		"both ends":                  lines(line(wallet, -top), line(equity, top)),
		"three":                      lines(line(wallet, -top), line(equity, top-1), line(chain, 1)),
		"first and last":             lines(line(wallet, 1), line(underOut(99), -1)),
		"a sum above MaxAmt":         lines(line(wallet, top), line(equity, top), line(income, -top), line(chain, -top)),
		"every account":              fullLines(1),
		"every account, at its ends": fullLines(top),
	} {
		if !impl.LinesOk(l) {
			t.Errorf("%s: LinesOk is false", name)
		}
	}
	for name, l := range wrongLedgers() {
		if impl.LinesOk(l.Lines) != (len(l.Lines) == 0) {
			t.Errorf("%s: LinesOk is %v", name, len(l.Lines) != 0)
		}
	}
	if impl.LinesOk(lines(line(wallet, 0))) || impl.LinesOk(lines(line(impl.Acc{}, 0))) {
		t.Error("a line of 0 is none")
	}
	long := make([]impl.Line, 100000)
	if impl.LinesOk(long) {
		t.Error("many lines of nothing are right")
	}
}

// P13: a posting has an Id from 1 to MaxAmt and 2 to MaxLines right lines.
func TestP13PostingOk(t *testing.T) {
	pair := lines(line(wallet, 5), line(equity, -5))
	for id, want := range map[int]bool{-1 << 63: false, -1: false, 0: false, 1: true, 2: true, top - 1: true, top: true, top + 1: false, 1<<63 - 1: false} {
		if got := impl.PostingOk(posting(id, pair...)); got != want {
			t.Errorf("PostingOk with Id %d is %v", id, got)
		}
	}
	for n := 0; n <= 302; n++ {
		l := fullLines(1)[:n]
		if n%2 == 1 && n > 1 {
			l[n-1].Amt, l[n-2].Amt = -1, -1
			l[n-3].Amt = 2
		}
		if n > 1 && !impl.LinesOk(l) {
			t.Fatalf("%d lines are not right", n)
		}
		if got := impl.PostingOk(posting(1, l...)); got != (n >= 2 && n <= impl.MaxLines) {
			t.Errorf("PostingOk with %d lines is %v", n, got)
		}
	}
	for name, l := range wrongLedgers() {
		if impl.PostingOk(posting(1, l.Lines...)) {
			t.Errorf("%s: PostingOk is true", name)
		}
	}
}

// P13: a ledger has a Last from 0 to MaxAmt and right lines; none at all are right.
func TestP13LedgerOk(t *testing.T) {
	pair := lines(line(wallet, 5), line(equity, -5))
	for last, want := range map[int]bool{-1 << 63: false, -1: false, 0: true, 1: true, top - 1: true, top: true, top + 1: false, 1<<63 - 1: false} {
		if impl.LedgerOk(ledger(last)) != want || impl.LedgerOk(ledger(last, pair...)) != want {
			t.Errorf("LedgerOk with Last %d isn't %v", last, want)
		}
	}
	if !impl.LedgerOk(impl.Ledger{}) || !impl.LedgerOk(impl.Ledger{Lines: []impl.Line{}}) {
		t.Error("LedgerOk of a ledger without lines is false")
	}
	if !impl.LedgerOk(ledger(top, fullLines(top)...)) {
		t.Error("LedgerOk of a ledger with every account is false")
	}
	eachWrongLedger(t, func(t *testing.T, l impl.Ledger) {
		if impl.LedgerOk(l) {
			t.Error("LedgerOk is true")
		}
	})
}

// P13: Balance is the amount of the line of the account, else 0.
func TestP13Balance(t *testing.T) {
	l := ledger(3, line(wallet, -7), line(local(2), 3), line(underOut(2), 4))
	for _, a := range allAccs() {
		want := map[impl.Acc]int{wallet: -7, local(2): 3, underOut(2): 4}[a]
		if got := impl.Balance(l, a); got != want {
			t.Errorf("Balance of %v is %d; want %d", a, got, want)
		}
		if got := impl.Balance(impl.Ledger{}, a); got != 0 {
			t.Errorf("Balance of %v in an empty ledger is %d", a, got)
		}
	}
	full := ledger(top, fullLines(top)...)
	for i, a := range allAccs() {
		if got := impl.Balance(full, a); got != full.Lines[i].Amt {
			t.Errorf("Balance of %v is %d; want %d", a, got, full.Lines[i].Amt)
		}
	}
	for _, a := range []impl.Acc{{}, {Kind: 9}, {Kind: 1, Ch: 1}, {Kind: 6}, {Kind: 6, Ch: 100}, {Kind: -1, Ch: -1}} {
		if got := impl.Balance(l, a); got != 0 {
			t.Errorf("Balance of %v, which isn't right, is %d", a, got)
		}
	}
	eachWrongLedger(t, func(t *testing.T, l impl.Ledger) {
		for _, x := range l.Lines {
			if got := impl.Balance(l, x.Acc); got != 0 {
				t.Errorf("Balance of %v is %d", x.Acc, got)
			}
		}
	})
}

// P13: Worth is what is owned: the wallet's, and what is in channels and under way.
func TestP13Worth(t *testing.T) {
	for _, c := range []struct {
		name string
		l    impl.Ledger
		want int
	}{
		{"nothing", impl.Ledger{}, 0},
		{"wallet", ledger(1, line(wallet, 5), line(equity, -5)), 5},
		{"below 0", ledger(1, line(wallet, -5), line(equity, 5)), -5},
		{"local", ledger(1, line(equity, -5), line(local(1), 5)), 5},
		{"under way in", ledger(1, line(equity, -5), line(underIn(99), 5)), 5},
		{"under way out", ledger(1, line(equity, -5), line(underOut(50), 5)), 5},
		{"income", ledger(1, line(income, -5), line(local(1), 5)), 5},
		{"rebal", ledger(1, line(rebal, 5), line(local(1), -5)), -5},
		{"chain", ledger(1, line(chain, 5), line(local(1), -5)), -5},
		{"within what is owned", ledger(1, line(wallet, -5), line(local(1), 5)), 0},
		{"within what isn't", ledger(1, line(equity, -5), line(chain, 5)), 0},
		{"all kinds", ledger(1, line(wallet, 1), line(equity, -100), line(income, 20), line(rebal, 30), line(chain, 40), line(local(1), 2), line(underIn(2), 3), line(underOut(3), 4)), 10},
		{"above MaxAmt", ledger(1, line(wallet, top), line(equity, -top), line(income, -top), line(local(1), top)), 2 * top},
		{"below -MaxAmt", ledger(1, line(wallet, -top), line(equity, top), line(income, top), line(rebal, top), line(local(1), -top), line(underOut(9), -top)), -3 * top},
	} {
		if got := impl.Worth(c.l); got != c.want {
			t.Errorf("%s: Worth is %d; want %d", c.name, got, c.want)
		}
	}
	eachWrongLedger(t, func(t *testing.T, l impl.Ledger) {
		if got := impl.Worth(l); got != 0 {
			t.Errorf("Worth is %d", got)
		}
	})
}

// P13: none of the functions that only look changes what it is given.
func TestP13LooksChangeNothing(t *testing.T) {
	for name, l := range wrongLedgers() {
		was := copyOfLedger(l)
		impl.LinesOk(l.Lines)
		impl.PostingOk(posting(1, l.Lines...))
		impl.LedgerOk(l)
		impl.Balance(l, wallet)
		impl.Worth(l)
		if !sameLedger(l, was) {
			t.Errorf("%s: the ledger is changed", name)
		}
	}
	full := ledger(9, fullLines(3)...)
	was := slices.Clone(full.Lines)
	impl.LedgerOk(full)
	impl.Balance(full, wallet)
	impl.Worth(full)
	if !slices.Equal(full.Lines, was) {
		t.Error("the full ledger is changed")
	}
}
