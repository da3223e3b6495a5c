package tests

import (
	"slices"
	"testing"

	"loop.example/g00400/impl"
)

// lookRest holds Turns and Steady of any book and rule against P8, by what the turns themselves say and do. It tells how many there are.
func lookRest(t *testing.T, b impl.Book, r impl.Rule) int {
	t.Helper()
	right := impl.BookOk(b) && impl.RuleOk(r)
	l := impl.Turns(b, r)
	if steady := impl.Steady(b, r); steady != (right && len(l) == 0) {
		t.Fatalf("%+v by %+v: steady %v, with the turns %+v", b, r, steady, l)
	}
	if !right {
		if len(l) > 0 {
			t.Fatalf("%+v by %+v: not right, but turns %+v", b, r, l)
		}
		return 0
	}
	lookEachTurn(t, b, r, l)
	after := lookTurned(t, b, l)
	// Without a number left the book takes no turn, and stays as it is.
	if r.Step == 0 && b.Next < top && !impl.Steady(after, r) {
		t.Fatalf("%+v by %+v: turned to %+v it isn't steady: %+v", b, r, after, impl.Turns(after, r))
	}
	return len(l)
}

// lookEachTurn wants each turn to be of a channel of the book, in their order, to another fee within the rule's ends, and one that the book takes.
func lookEachTurn(t *testing.T, b impl.Book, r impl.Rule, l []impl.Event) {
	t.Helper()
	at := 0
	for _, e := range l {
		for at < len(b.Chans) && b.Chans[at].Id != e.Ch {
			at++
		}
		if at == len(b.Chans) {
			t.Fatalf("%+v by %+v: the turns %+v aren't of the channels, in their order", b, r, l)
		}
		c := b.Chans[at]
		at++
		if e != (impl.Event{Kind: impl.EvPrice, Ch: c.Id, Amt: c.Base, Fee: e.Fee}) || e.Fee < r.Min || e.Fee > r.Max || e.Fee == c.Ppm {
			t.Fatalf("%+v by %+v: the turn %+v of the channel %+v", b, r, e, c)
		}
		after, p, code := impl.Apply(b, e)
		if b.Next == top {
			if code != 2 {
				t.Fatalf("%+v: %+v has code %d, though no number is left", b, e, code)
			}
			continue
		}
		want := changed(b, func(b *impl.Book) { b.Chans[at-1].Ppm = e.Fee })
		if code != 0 || len(p.Lines) > 0 || !sameBook(after, want) {
			t.Fatalf("%+v: %+v has code %d, makes %+v and posts %+v", b, e, code, after, p)
		}
	}
}

// lookTurned wants all turns to be taken one after the other, as long as there are numbers, and tells what they make.
func lookTurned(t *testing.T, b impl.Book, l []impl.Event) impl.Book {
	t.Helper()
	after, ps, codes := impl.ApplyAll(b, l)
	want := copyOfBook(b)
	for _, e := range l {
		if b.Next < top {
			wantMove(&want, e.Ch, func(c *impl.Chan) { c.Ppm = e.Fee })
		}
	}
	refused := slices.ContainsFunc(codes, func(code int) bool { return code != 0 })
	if len(codes) != len(l) || refused != (b.Next == top && len(l) > 0) || len(ps) > 0 || !sameBook(after, want) {
		t.Fatalf("%+v: the turns %+v have the codes %v and make %+v", b, l, codes, after)
	}
	return after
}

// P8: over many books and rules, small and of the greatest size, right and wrong.
func TestP8TurnsWithinTheirEnds(t *testing.T) {
	d := dice(81)
	seen := map[string]int{}
	for range 1500 {
		rules := []impl.Rule{d.rule(), d.wrongRule()}
		for kind, b := range map[string]impl.Book{"none": d.fairBook(0), "small": d.fairBook(1 + d.below(5)), "great": d.fairBook(20), "crowded": d.crowdedBook(), "last": last(d.fairBook(3)), "wrong": d.wrongBook()} {
			for _, r := range rules {
				n := lookRest(t, b, r)
				seen[kind+", some"] += min(1, n)
				if impl.Steady(b, r) {
					seen[kind+", steady"]++
				}
				if r.Step == 0 && n > 0 {
					seen[kind+", comes to rest"]++
				}
				if n == 20 {
					seen[kind+", all"]++
				}
			}
		}
	}
	for _, kind := range []string{"none, steady", "small, some", "small, steady", "small, comes to rest", "great, some", "great, comes to rest", "great, all", "crowded, some", "crowded, comes to rest", "crowded, all", "last, some", "last, steady"} {
		if seen[kind] < 50 {
			t.Errorf("%v: of %q too few", seen, kind)
		}
	}
	if seen["none, some"] > 0 {
		t.Errorf("%v: turns without channels", seen)
	}
}

// P8: books that events have made, turned again and again in between.
func TestP8TurnsOfLivedBooks(t *testing.T) {
	d := dice(82)
	some := 0
	for i := range 300 {
		b := d.livedBook()
		for range 10 {
			r := d.rule()
			some += min(1, lookRest(t, b, r))
			b, _, _ = impl.ApplyAll(b, impl.Turns(b, r))
			if after, _, code := impl.Apply(b, d.bookEvent(moods()[i%len(moods())], b)); code == 0 {
				b = after
			}
		}
	}
	if some < 1000 {
		t.Errorf("%d have turns: the test looks at too few", some)
	}
}

// P8: at the edges: books and rules.
func TestP8TurnsAtEdges(t *testing.T) {
	some := 0
	for _, b := range planBooks() {
		for _, r := range rightRules() {
			some += min(1, lookRest(t, b, r))
			r.Step = 0
			some += min(1, lookRest(t, b, r))
		}
		for _, r := range wrongRules() {
			lookRest(t, b, r)
		}
	}
	for _, b := range wrongBooks() {
		for _, r := range rightRules() {
			lookRest(t, b, r)
		}
	}
	if some < 200 {
		t.Errorf("%d have turns: the test looks at too few", some)
	}
}

// P8: where the step is 0, one round of turns is enough, however far outside the fees were; those within stay.
func TestP8RestWhereStepIsZero(t *testing.T) {
	b := charged([4]int{1, 0, 3, 0}, [4]int{2, 0, 3, 4}, [4]int{3, 0, 3, 5}, [4]int{4, 50, 3, 50}, [4]int{5, 100, 3, 100}, [4]int{6, 100, 3, 101}, [4]int{7, 50, 3, 1000000}, [4]int{8, 50, 3, 0})
	r := rule(30, 70, 0, 5, 100)
	if impl.Steady(b, r) {
		t.Fatal("steady too early")
	}
	after, ps, codes := impl.ApplyAll(b, impl.Turns(b, r))
	if !impl.Steady(after, r) || len(ps) > 0 || len(codes) != 5 {
		t.Errorf("after one round: %+v, codes %v", after, codes)
	}
	for i, want := range []int{5, 5, 5, 50, 100, 100, 100, 5} {
		if after.Chans[i].Ppm != want {
			t.Errorf("channel %d has %d; want %d", after.Chans[i].Id, after.Chans[i].Ppm, want)
		}
	}
}

// P8: with a step above 0 a fee that is within its ends stays within them, goes one way only, by at most the step, and rests where it is neither scarce nor plenty.
func TestP8TurnsGoOneWay(t *testing.T) {
	d := dice(83)
	for range 400 {
		b, r := d.fairBook(1+d.below(20)), d.rule()
		r.Step = max(r.Step, 50000)
		b, _, _ = impl.ApplyAll(b, impl.Turns(b, rule(0, 100, 0, r.Min, r.Max)))
		for range 25 {
			after, _, _ := impl.ApplyAll(b, impl.Turns(b, r))
			lookOneWay(t, b, after, r)
			b = after
		}
		if !impl.Steady(b, r) {
			t.Fatalf("%+v by %+v turns still", b, r)
		}
	}
}

func lookOneWay(t *testing.T, b impl.Book, after impl.Book, r impl.Rule) {
	t.Helper()
	for i, c := range b.Chans {
		first, second := wantEnds(c.Size, r.Lo, r.Hi)
		more := after.Chans[i].Ppm - c.Ppm
		up, down := c.Local < first, c.Local > second
		if more > 0 && !up || more < 0 && !down || more > r.Step || -more > r.Step || c.Ppm < r.Min || c.Ppm > r.Max {
			t.Fatalf("%+v by %+v goes by %d", c, r, more)
		}
		if up && more == 0 && c.Ppm != r.Max || down && more == 0 && c.Ppm != r.Min {
			t.Fatalf("%+v by %+v stays", c, r)
		}
	}
}
