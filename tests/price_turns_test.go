package tests

import (
	"slices"
	"testing"

	"loop.example/g00400/impl"
)

// charged is a book of channels of size 100 by number: what the hub has of it, Base and Ppm.
func charged(rows ...[4]int) impl.Book {
	b := impl.Book{Next: 1}
	for _, row := range rows {
		b.Chans = append(b.Chans, priced(row[0], row[1], 100-row[1], row[2], row[3], 0))
	}
	return sized(b)
}

func TestP13Turns(t *testing.T) {
	plain := rule(30, 70, 10, 5, 100)
	mixed := charged([4]int{2, 29, 7, 50}, [4]int{3, 30, 8, 50}, [4]int{9, 71, 9, 50}, [4]int{40, 70, 1, 4}, [4]int{41, 50, 2, 101}, [4]int{98, 0, top, 100}, [4]int{99, 100, 0, 5})
	for _, c := range []struct {
		name string
		b    impl.Book
		r    impl.Rule
		want []impl.Event
	}{
		{"all kinds", mixed, plain, turns(turn(2, 7, 60), turn(9, 9, 40), turn(40, 1, 5), turn(41, 2, 100))},
		{"Step 0", mixed, rule(30, 70, 0, 5, 100), turns(turn(40, 1, 5), turn(41, 2, 100))},
		{"Step 0, any fee", mixed, rule(30, 70, 0, 0, 1000000), nil},
		{"any fee", mixed, rule(30, 70, 10, 0, 1000000), turns(turn(2, 7, 60), turn(9, 9, 40), turn(98, top, 110), turn(99, 0, 0))},
		{"all to be ours", mixed, rule(100, 100, 1, 0, 1000000), turns(turn(2, 7, 51), turn(3, 8, 51), turn(9, 9, 51), turn(40, 1, 5), turn(41, 2, 102), turn(98, top, 101))},
		{"all to be theirs", mixed, rule(0, 0, 1, 0, 1000000), turns(turn(2, 7, 49), turn(3, 8, 49), turn(9, 9, 49), turn(40, 1, 3), turn(41, 2, 100), turn(99, 0, 4))},
		{"anything goes", mixed, rule(0, 100, 10, 0, 1000000), nil},
		{"one fee", mixed, rule(30, 70, 10, 50, 50), turns(turn(40, 1, 50), turn(41, 2, 50), turn(98, top, 50), turn(99, 0, 50))},
		{"nothing but 0", mixed, impl.Rule{}, turns(turn(2, 7, 0), turn(3, 8, 0), turn(9, 9, 0), turn(40, 1, 0), turn(41, 2, 0), turn(98, top, 0), turn(99, 0, 0))},
		{"no channels", impl.BookNew(), plain, nil},
		{"no channels, not nil", rightBooks()["new, not nil"], plain, nil},
		{"one that stays", charged([4]int{1, 50, 3, 50}), plain, nil},
		{"one that turns", charged([4]int{1, 10, 3, 50}), plain, turns(turn(1, 3, 60))},
		{"one that would, but for Max", charged([4]int{1, 10, 3, 100}), plain, nil},
		{"one that would, but for Min", charged([4]int{1, 90, 3, 5}), plain, nil},
		// Sizes 687, 664, 172, 30 and 70; of them 200, 400, 50, 0 and 70 are ours.
		{"busy", busy(), rule(30, 60, 10, 0, 1000000), turns(turn(1, 0, 10), turn(2, 1, 49990), turn(5, 3, 10), turn(9, 0, 10), turn(12, 0, 999990))},
		{"busy, wider", busy(), rule(29, 61, 10, 0, 1000000), turns(turn(9, 0, 10), turn(12, 0, 999990))},
		{"Next MaxAmt", last(charged([4]int{1, 10, 3, 50})), plain, turns(turn(1, 3, 60))},
		{"all at MaxAmt", changed(last(rich(charged([4]int{1, 10, top, 50}))), func(b *impl.Book) { b.Tick = top }), plain, turns(turn(1, top, 60))},
	} {
		if got := impl.Turns(c.b, c.r); !slices.Equal(got, c.want) {
			t.Errorf("%s: Turns = %+v; want %+v", c.name, got, c.want)
		}
		if got := impl.Steady(c.b, c.r); got != (len(c.want) == 0) {
			t.Errorf("%s: Steady is %v", c.name, got)
		}
		lookTurns(t, c.name, c.b, c.r)
		lookRest(t, c.b, c.r)
	}
}

// P13: books and rules at their edges.
func TestP13TurnsAtEdges(t *testing.T) {
	some := 0
	for book, b := range planBooks() {
		for name, r := range rightRules() {
			some += min(1, lookTurns(t, book+", "+name, b, r))
		}
		for name, r := range wrongRules() {
			lookTurns(t, book+", "+name, b, r)
		}
	}
	if some < 100 {
		t.Errorf("%d have turns: the test looks at too few", some)
	}
}

// P13: of a book that isn't right nothing turns, and it isn't steady either.
func TestP13TurnsOfWrongBooks(t *testing.T) {
	for name, b := range wrongBooks() {
		for _, r := range []impl.Rule{rule(30, 70, 10, 5, 100), rule(0, 100, 0, 0, 1000000), {}, {Lo: 9}} {
			if l := impl.Turns(b, r); len(l) > 0 || impl.Steady(b, r) {
				t.Errorf("%s: Turns by %+v = %+v, steady %v", name, r, l, impl.Steady(b, r))
			}
			lookTurns(t, name, b, r)
		}
	}
}

// P13: books of the greatest size: each channel may turn, and they do so in their order.
func TestP13TurnsGreatest(t *testing.T) {
	d := dice(102)
	for name, b := range map[string]impl.Book{"full": full(), "crowded": d.crowdedBook(), "the greatest amounts": planBooks()["MaxChans past MaxCap"]} {
		l := impl.Turns(b, rule(0, 100, 0, 123, 123))
		if len(b.Chans) != 20 || len(l) != 20 {
			t.Fatalf("%s: %d channels, %d turns", name, len(b.Chans), len(l))
		}
		for i, c := range b.Chans {
			if l[i] != turn(c.Id, c.Base, 123) {
				t.Errorf("%s: turn %d is %+v", name, i, l[i])
			}
		}
		for rules, r := range rightRules() {
			lookTurns(t, name+", "+rules, b, r)
			lookRest(t, b, r)
		}
	}
}

// P13: books and rules by chance, each against what the tests reckon.
func TestP13TurnsByChance(t *testing.T) {
	d := dice(101)
	some := 0
	for range 3000 {
		for _, b := range []impl.Book{d.fairBook(d.below(6)), d.fairBook(20), d.wrongBook()} {
			some += min(1, lookTurns(t, "right rule", b, d.rule()))
			lookTurns(t, "wrong rule", b, d.wrongRule())
		}
		if t.Failed() {
			return
		}
	}
	if some < 3000 {
		t.Errorf("%d have turns: the test looks at too few", some)
	}
}
