package tests

import (
	"slices"
	"testing"

	"loop.example/g00400/impl"
)

var (
	wallet = impl.Acc{Kind: impl.AccWallet}
	equity = impl.Acc{Kind: impl.AccEquity}
	income = impl.Acc{Kind: impl.AccIncome}
	rebal  = impl.Acc{Kind: impl.AccRebal}
	chain  = impl.Acc{Kind: impl.AccChain}
)

func local(ch int) impl.Acc    { return impl.Acc{Kind: impl.AccLocal, Ch: ch} }
func underIn(ch int) impl.Acc  { return impl.Acc{Kind: impl.AccIn, Ch: ch} }
func underOut(ch int) impl.Acc { return impl.Acc{Kind: impl.AccOut, Ch: ch} }

func line(a impl.Acc, amt int) impl.Line { return impl.Line{Acc: a, Amt: amt} }

func lines(l ...impl.Line) []impl.Line { return l }

func posting(id int, l ...impl.Line) impl.Posting { return impl.Posting{Id: id, Lines: l} }

func ledger(last int, l ...impl.Line) impl.Ledger { return impl.Ledger{Last: last, Lines: l} }

// allAccs are the right accounts in their order, as the chapter lists them.
func allAccs() []impl.Acc {
	accs := []impl.Acc{wallet, equity, income, rebal, chain}
	for _, of := range []func(int) impl.Acc{local, underIn, underOut} {
		for ch := 1; ch <= 99; ch++ {
			accs = append(accs, of(ch))
		}
	}
	return accs
}

// fullLines has a line for every right account, half of them with amt and half with -amt.
func fullLines(amt int) []impl.Line {
	var l []impl.Line
	for i, a := range allAccs() {
		l = append(l, line(a, amt-2*amt*(i%2)))
	}
	return l
}

func sumOf(l []impl.Line) int {
	sum := 0
	for _, x := range l {
		sum += x.Amt
	}
	return sum
}

func copyOfLedger(l impl.Ledger) impl.Ledger {
	return impl.Ledger{Last: l.Last, Lines: slices.Clone(l.Lines)}
}

func copyOfPosting(p impl.Posting) impl.Posting {
	return impl.Posting{Id: p.Id, Lines: slices.Clone(p.Lines)}
}

func sameLedger(a impl.Ledger, b impl.Ledger) bool {
	return a.Last == b.Last && slices.Equal(a.Lines, b.Lines)
}

func samePosting(a impl.Posting, b impl.Posting) bool {
	return a.Id == b.Id && slices.Equal(a.Lines, b.Lines)
}

// scribble writes over the whole of an answer, spare room too, to show what it shares.
func scribble(l []impl.Line) {
	l = l[:cap(l)]
	for i := range l {
		l[i] = line(impl.Acc{Kind: -7, Ch: -7}, -7)
	}
}

// wrongLedgers are wrong in one thing each, but for that they are right.
func wrongLedgers() map[string]impl.Ledger {
	twice := append(fullLines(1), fullLines(1)[:20]...) // there are fewer accounts than MaxAccs, so such a ledger has some twice
	return map[string]impl.Ledger{
		"Last below 0":             ledger(-1),
		"Last above":               ledger(top + 1),
		"least Last":               ledger(-1 << 63),
		"greatest Last":            ledger(1<<63 - 1),
		"one line":                 ledger(1, line(wallet, 5)),
		"sum above 0":              ledger(1, line(wallet, 5), line(equity, -4)),
		"sum below 0":              ledger(1, line(wallet, 5), line(equity, -6)),
		"amount 0":                 ledger(1, line(wallet, 5), line(equity, -5), line(income, 0)),
		"amount 0 first":           ledger(1, line(wallet, 0), line(equity, -5), line(income, 5)),
		"amounts past both ends":   ledger(1, line(wallet, top+1), line(equity, -top-1)),
		"amount past the low end":  ledger(1, line(wallet, -top-1), line(equity, top), line(income, 1)),
		"amount past the high end": ledger(1, line(wallet, top+1), line(equity, -top), line(income, -1)),
		"least int twice":          ledger(1, line(wallet, -1<<63), line(equity, -1<<63)),
		"least and greatest int":   ledger(1, line(wallet, -1<<63), line(equity, 1<<63-1), line(income, 1)),
		"four that wrap to 0":      ledger(1, line(wallet, 1<<62), line(equity, 1<<62), line(income, 1<<62), line(rebal, 1<<62)),
		"kinds fall":               ledger(1, line(equity, 5), line(wallet, -5)),
		"channels fall":            ledger(1, line(local(2), 5), line(local(1), -5)),
		"kinds and channels fall":  ledger(1, line(underIn(1), 5), line(local(2), -5)),
		"an account twice":         ledger(1, line(wallet, 5), line(wallet, -5)),
		"a channel's twice":        ledger(1, line(local(3), 5), line(local(3), -5)),
		"kind 0":                   ledger(1, line(impl.Acc{}, 5), line(wallet, -5)),
		"kind 9":                   ledger(1, line(wallet, 5), line(impl.Acc{Kind: 9}, -5)),
		"kind 9 with a channel":    ledger(1, line(wallet, 5), line(impl.Acc{Kind: 9, Ch: 1}, -5)),
		"wallet of a channel":      ledger(1, line(impl.Acc{Kind: 1, Ch: 1}, 5), line(equity, -5)),
		"local without a channel":  ledger(1, line(wallet, 5), line(local(0), -5)),
		"local of channel -1":      ledger(1, line(wallet, 5), line(local(-1), -5)),
		"out of channel 100":       ledger(1, line(wallet, 5), line(underOut(100), -5)),
		"just MaxAccs lines":       ledger(1, twice[:impl.MaxAccs]...),
		"more lines than MaxAccs":  ledger(1, twice...),
	}
}

func eachWrongLedger(t *testing.T, look func(t *testing.T, l impl.Ledger)) {
	for name, l := range wrongLedgers() {
		t.Run(name, func(t *testing.T) { look(t, l) })
	}
}

// dice is a source of numbers that are the same in every run.
type dice uint64

func (d *dice) below(n int) int {
	*d = *d*6364136223846793005 + 1442695040888963407
	return int(uint64(*d)>>33) % n
}

// amount is small mostly, and sometimes near an end.
func (d *dice) amount() int {
	n := d.below(9) - 4
	switch d.below(6) {
	case 0:
		return top - d.below(3)
	case 1:
		return -top + d.below(3)
	case 2:
		return n + top/2
	}
	return n
}

// posting makes one with two or more of few accounts, so that they often come to 0 and often past an end.
func (d *dice) posting(id int) impl.Posting {
	few := []impl.Acc{wallet, equity, income, chain, local(1), local(99), underIn(1), underOut(1), underOut(7)}
	p := impl.Posting{Id: id}
	rest := 0
	for i, a := range few {
		if d.below(3) > 0 || len(p.Lines) == impl.MaxLines-1 {
			continue
		}
		amt := d.amount()
		if i == len(few)-1 {
			amt = -rest
		}
		rest += amt
		p.Lines = append(p.Lines, line(a, amt))
	}
	if rest != 0 && d.below(8) > 0 {
		p.Lines = append(p.Lines, line(underOut(9), -rest))
	}
	return p
}
