package tests

import (
	"slices"
	"strconv"
	"strings"
	"testing"

	"loop.example/g00400/impl"
)

// What the chapter says of the whole, by itself.

func wantRun(r stepReader, cells int, text string) (impl.World, int) {
	if cells < 1 || cells > 600 {
		return impl.World{}, -1
	}
	l, line := r.wantScript(text)
	if line != 0 {
		return impl.World{}, line
	}
	w := downWith(laid(cells))
	for _, s := range l {
		w = wantDo(w, s)
	}
	return w, 0
}

// reportRow is a word and its numbers; a number past both ends has no digits.
func reportRow(word string, numbers ...int) string {
	words := []string{word}
	for _, n := range numbers {
		if n < -top || n > top {
			words = append(words, "")
		} else {
			words = append(words, strconv.Itoa(n))
		}
	}
	return strings.Join(words, " ") + "\n"
}

// accSaid is the name of a right account, and no name of another one.
func accSaid(a impl.Acc) string {
	name := ""
	if slices.Contains(allAccs(), a) {
		name = []string{"", "wallet", "equity", "income", "rebal", "chain", "local", "in", "out"}[a.Kind]
	}
	if name != "" && a.Ch > 0 {
		name += strconv.Itoa(a.Ch)
	}
	return name
}

func wantReport(w impl.World) string {
	if !w.Up {
		return reportRow("down", len(w.Took), len(w.Sent))
	}
	rows := []string{reportRow("up", len(w.Took), len(w.Sent)), reportRow("wallet", w.Hub.Book.Wallet)}
	for _, c := range w.Hub.Book.Chans {
		rows = append(rows, reportRow("chan", c.Id, c.Local, c.Remote, c.Base, c.Ppm, c.Score))
	}
	for _, h := range w.Hub.Book.Htlcs {
		rows = append(rows, reportRow("htlc", h.Key, h.In, h.Out, h.AmtIn, h.AmtOut))
	}
	for _, c := range w.Hub.Book.Circles {
		rows = append(rows, reportRow("circle", c.Key, c.From, c.To, c.Amt, c.Fee))
	}
	for _, l := range w.Hub.Ledger.Lines {
		rows = append(rows, reportRow(accSaid(l.Acc), l.Amt))
	}
	return strings.Join(rows, "")
}

func wantLegal(w impl.World) bool {
	if !wantWorldOk(w) || !isBeginning(w.Sent, w.Took, 0) {
		return false
	}
	if !w.Up {
		return true
	}
	made, ok := wantMade(w.Took)
	return ok && sameBook(made.book, w.Hub.Book) && wantAgrees(w.Hub.Book, w.Hub.Ledger)
}

func wantEarned(w impl.World) int {
	if !w.Up || !wantWorldOk(w) {
		return 0
	}
	sum := 0
	for _, l := range w.Hub.Ledger.Lines {
		if l.Acc == income || l.Acc == rebal {
			sum += l.Amt
		}
	}
	return sum
}

// lookWhole holds Report, Legal and Earned of a world against what the tests reckon, twice, and looks that the world stays. It tells whether it is legal.
func lookWhole(t *testing.T, name string, w impl.World) bool {
	t.Helper()
	given, legal := roomyWorld(w), wantLegal(w)
	for range 2 {
		if got, want := impl.Report(given), wantReport(w); got != want {
			t.Errorf("%s: Report is\n%s\nwant\n%s", name, got, want)
		}
		if got := impl.Legal(given); got != legal {
			t.Errorf("%s: Legal is %v of %+v", name, got, shortly(w))
		}
		if got, want := impl.Earned(given), wantEarned(w); got != want {
			t.Errorf("%s: Earned is %d of %+v; want %d", name, got, shortly(w), want)
		}
	}
	if !sameWorld(allOfWorld(given), allOfWorld(roomyWorld(w))) {
		t.Errorf("%s: the world is changed", name)
	}
	return legal
}

// lookRun holds Run against what it is by its parts, and looks that its answer is new memory. It tells the answer.
func lookRun(t *testing.T, cells int, text string) (impl.World, int) {
	t.Helper()
	want, ok := impl.WorldNew(cells)
	l, line := impl.ReadScript(text)
	switch {
	case !ok:
		want, line = impl.World{}, -1
	case line != 0:
		want = impl.World{}
	default:
		want = impl.Play(want, l)
	}
	for range 2 {
		w, n := impl.Run(cells, text)
		if !sameWorld(w, want) || n != line {
			t.Errorf("Run(%d, %.80q) = %+v, %d; want %+v, %d", cells, text, shortly(w), n, shortly(want), line)
		}
		blotWorld(w)
	}
	return want, line
}

// aScript is a number of cells and a script of at most that many lines by chance, with its steps: those of a play that have a text.
func (d *dice) aScript(m mood, most int) (int, string, []impl.Step) {
	cells := 1 + d.below(40)
	w, _ := impl.WorldNew(cells)
	var text strings.Builder
	var told []impl.Step
	for _, s := range d.aPlay(m, w, d.below(most)) {
		if said := impl.StepText(s); said != "" {
			text.WriteString(said + "\n")
			told = append(told, s)
		}
	}
	return cells, text.String(), told
}
