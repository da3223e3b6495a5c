package tests

import (
	"slices"
	"testing"

	"loop.example/g00400/impl"
)

func rule(lo int, hi int, step int, least int, most int) impl.Rule {
	return impl.Rule{Lo: lo, Hi: hi, Step: step, Min: least, Max: most}
}

func turn(ch int, base int, ppm int) impl.Event {
	return impl.Event{Kind: impl.EvPrice, Ch: ch, Amt: base, Fee: ppm}
}

func turns(l ...impl.Event) []impl.Event { return l }

// charging is a channel of which only what NextPpm looks at is told.
func charging(size int, ours int, ppm int) impl.Chan {
	return impl.Chan{Size: size, Local: ours, Ppm: ppm}
}

func ruleFields(r *impl.Rule) []*int { return []*int{&r.Lo, &r.Hi, &r.Step, &r.Min, &r.Max} }

// rightRules are right, each at some edge of the chapter.
func rightRules() map[string]impl.Rule {
	return map[string]impl.Rule{
		"plain":                     rule(30, 70, 10, 5, 100),
		"nothing":                   {},
		"Lo 0":                      rule(0, 70, 10, 5, 100),
		"Lo 1":                      rule(1, 70, 10, 5, 100),
		"Lo 100":                    rule(100, 100, 10, 5, 100),
		"Lo 99":                     rule(99, 100, 10, 5, 100),
		"Hi 0":                      rule(0, 0, 10, 5, 100),
		"Hi is Lo":                  rule(30, 30, 10, 5, 100),
		"Hi one above Lo":           rule(30, 31, 10, 5, 100),
		"Hi 100":                    rule(30, 100, 10, 5, 100),
		"all of it":                 rule(0, 100, 10, 5, 100),
		"halves":                    rule(50, 50, 10, 5, 100),
		"Step 0":                    rule(30, 70, 0, 5, 100),
		"Step 1":                    rule(30, 70, 1, 5, 100),
		"Step Million less 1":       rule(30, 70, 999999, 5, 100),
		"Step Million":              rule(30, 70, 1000000, 5, 100),
		"Step Million, any fee":     rule(30, 70, 1000000, 0, 1000000),
		"Step above Max":            rule(30, 70, 101, 5, 100),
		"Min 0":                     rule(30, 70, 10, 0, 100),
		"Min 1":                     rule(30, 70, 10, 1, 100),
		"Min Million":               rule(30, 70, 10, 1000000, 1000000),
		"Min Million less 1":        rule(30, 70, 10, 999999, 1000000),
		"Max is Min":                rule(30, 70, 10, 5, 5),
		"Max one above Min":         rule(30, 70, 10, 5, 6),
		"Max 0":                     rule(30, 70, 10, 0, 0),
		"Max Million":               rule(30, 70, 10, 5, 1000000),
		"any fee":                   rule(30, 70, 10, 0, 1000000),
		"any fee, Step 0":           rule(30, 70, 0, 0, 1000000),
		"all at their greatest":     rule(100, 100, 1000000, 1000000, 1000000),
		"Min and Max beyond a band": rule(0, 0, 0, 101, 102),
	}
}

// wrongRules are wrong, mostly in one thing alone.
func wrongRules() map[string]impl.Rule {
	return map[string]impl.Rule{
		"Lo -1":                        rule(-1, 70, 10, 5, 100),
		"Lo the least int":             rule(leastInt, 70, 10, 5, 100),
		"Lo 101":                       rule(101, 101, 10, 5, 100),
		"Lo 101, Hi 100":               rule(101, 100, 10, 5, 100),
		"Lo the greatest int":          rule(greatestInt, greatestInt, 10, 5, 100),
		"Hi one below Lo":              rule(30, 29, 10, 5, 100),
		"Hi -1, Lo 0":                  rule(0, -1, 10, 5, 100),
		"Lo and Hi -1":                 rule(-1, -1, 10, 5, 100),
		"Hi 0, Lo 1":                   rule(1, 0, 10, 5, 100),
		"Hi 99, Lo 100":                rule(100, 99, 10, 5, 100),
		"Lo without Hi":                {Lo: 9},
		"Lo and Hi turned round":       rule(70, 30, 10, 5, 100),
		"Hi 101":                       rule(30, 101, 10, 5, 100),
		"Hi the least int":             rule(30, leastInt, 10, 5, 100),
		"Hi the greatest int":          rule(30, greatestInt, 10, 5, 100),
		"Step -1":                      rule(30, 70, -1, 5, 100),
		"Step the least int":           rule(30, 70, leastInt, 5, 100),
		"Step Million and 1":           rule(30, 70, 1000001, 5, 100),
		"Step the greatest int":        rule(30, 70, greatestInt, 5, 100),
		"Min -1":                       rule(30, 70, 10, -1, 100),
		"Min and Max -1":               rule(30, 70, 10, -1, -1),
		"Min the least int":            rule(30, 70, 10, leastInt, 100),
		"Min Million and 1":            rule(30, 70, 10, 1000001, 1000001),
		"Min Million and 1, Max below": rule(30, 70, 10, 1000001, 1000000),
		"Min the greatest int":         rule(30, 70, 10, greatestInt, greatestInt),
		"Max one below Min":            rule(30, 70, 10, 5, 4),
		"Max 0, Min 1":                 rule(30, 70, 10, 1, 0),
		"Max one below Min, Million":   rule(30, 70, 10, 1000000, 999999),
		"Min without Max":              {Min: 2},
		"Min and Max turned round":     rule(30, 70, 10, 100, 5),
		"Max -1, Min 0":                rule(30, 70, 10, 0, -1),
		"Max Million and 1":            rule(30, 70, 10, 5, 1000001),
		"Max the least int":            rule(30, 70, 10, 5, leastInt),
		"Max the greatest int":         rule(30, 70, 10, 5, greatestInt),
		"all of it":                    rule(-1, 101, -1, -1, 1000001),
		"only Lo, Step 0":              rule(-1, 70, 0, 5, 100),
		"only Max, Step 0":             rule(30, 70, 0, 5, 1000001),
	}
}

func wantRuleOk(r impl.Rule) bool {
	limits := []int{0, r.Lo, r.Hi, 100}
	fees := []int{0, r.Min, r.Max, 1000000}
	steps := []int{0, r.Step, 1000000}
	return slices.IsSorted(limits) && slices.IsSorted(fees) && slices.IsSorted(steps)
}

func wantNextPpm(c impl.Chan, r impl.Rule) int {
	if !wantRuleOk(r) || !isAmt(c.Size) || !isAmt(c.Local) || c.Ppm < 0 || c.Ppm > 1000000 {
		return -1
	}
	first, second := wantEnds(c.Size, r.Lo, r.Hi)
	next := map[[2]bool]int{{true, false}: c.Ppm + r.Step, {false, true}: c.Ppm - r.Step, {false, false}: c.Ppm}[[2]bool{c.Local < first, c.Local > second}]
	return min(max(next, r.Min), r.Max)
}

func wantTurns(b impl.Book, r impl.Rule) []impl.Event {
	if !wantBookOk(b) || !wantRuleOk(r) {
		return nil
	}
	var l []impl.Event
	for _, c := range b.Chans {
		l = append(l, turn(c.Id, c.Base, wantNextPpm(c, r)))
	}
	return slices.DeleteFunc(l, func(e impl.Event) bool {
		c, _ := chanIn(b, e.Ch)
		return c.Ppm == e.Fee
	})
}

// lookTurns holds Turns and Steady against what the tests reckon, twice, and looks that they keep their hands off the book. It tells how many turns there are.
func lookTurns(t *testing.T, name string, b impl.Book, r impl.Rule) int {
	t.Helper()
	given, want := roomy(b), wantTurns(b, r)
	for range 2 {
		got := impl.Turns(given, r)
		if !slices.Equal(got, want) {
			t.Errorf("%s: Turns of %+v by %+v\n got %+v\nwant %+v", name, b, r, got, want)
		}
		blotList(got, turn(-3, -3, -3))
		if got := impl.Steady(given, r); got != (wantBookOk(b) && wantRuleOk(r) && len(want) == 0) {
			t.Errorf("%s: Steady of %+v by %+v = %v; the turns are %+v", name, b, r, got, want)
		}
		if !sameRoom(given, roomy(b)) {
			t.Fatalf("%s: the book is changed or shared: %+v", name, given)
		}
	}
	return len(want)
}

// rule is right. Its ends are often near each other, or near what a channel's fee may be at most.
func (d *dice) rule() impl.Rule {
	lo := d.below(101)
	steps := []int{0, 0, 1, 10, d.below(1000), d.below(1000001), 999999, 1000000}
	least := []int{0, 0, d.below(20), d.below(1000001), 1000000 - d.below(3)}[d.below(5)]
	most := []int{least, min(least+1, 1000000), least + d.below(1000001-least), 1000000, 1000000}[d.below(5)]
	return rule(lo, lo+d.below(101-lo)/(1+d.below(9)), steps[d.below(len(steps))], least, most)
}

// wrongRule has one thing changed, or two that may make up for each other; now and then it is right all the same.
func (d *dice) wrongRule() impl.Rule {
	r := d.rule()
	fields := ruleFields(&r)
	for range 1 + d.below(2) {
		*fields[d.below(len(fields))] = []int{*fields[d.below(len(fields))], fieldEdges()[d.below(len(fieldEdges()))], 101, 50}[d.below(4)]
	}
	return r
}

// fairBook has so many channels whose fees are often near what rules turn about.
func (d *dice) fairBook(count int) impl.Book {
	b := d.planBook(count)
	for i := range b.Chans {
		b.Chans[i].Base = []int{0, d.below(50), top - d.below(2)}[d.below(3)]
		b.Chans[i].Ppm = []int{0, 1, d.below(30), d.below(1000001), 999999, 1000000}[d.below(6)]
	}
	b.Next = []int{1, 1 + d.below(1000), top - 1}[d.below(3)]
	return sized(b)
}

// livedBook is one that events have made, with payments and circles under way.
func (d *dice) livedBook() impl.Book { return d.livedAsk().b }

// crowdedBook has as many channels, payments and circles as there may be.
func (d *dice) crowdedBook() impl.Book {
	b := d.fairBook(20)
	for i := range b.Chans {
		b.Chans[i].Id, b.Chans[i].Local, b.Chans[i].Remote = i+1, d.below(500), d.below(500)
	}
	b.Htlcs, b.Circles = manyHtlcs(60), manyCircles(20)
	return sized(b)
}

// wrongBook has one number changed, and so is wrong mostly.
func (d *dice) wrongBook() impl.Book {
	b := []impl.Book{d.fairBook(1 + d.below(5)), d.crowdedBook(), busy()}[d.below(3)]
	fields := bookFields(&b)
	*fields[d.below(len(fields))] = fieldEdges()[d.below(len(fieldEdges()))]
	return b
}
