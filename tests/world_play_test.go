package tests

import (
	"slices"
	"testing"

	"loop.example/g00400/impl"
)

// aPlay are n steps by chance that fit a world as it becomes by them.
func (d *dice) aPlay(m mood, w impl.World, n int) []impl.Step {
	l := beginning(m)
	w = impl.Play(w, l)
	for len(l) < n {
		s := d.anyStep(m, w, 9)
		l, w = append(l, s), impl.Do(w, s)
	}
	return l[:n]
}

// lookParts holds Play of the steps against Do of each, and against Play of them parted in two, wherever that is, and in many.
func lookParts(t *testing.T, name string, w impl.World, l []impl.Step) {
	t.Helper()
	one := w
	for _, s := range l {
		one = impl.Do(one, s)
	}
	given, was := roomyWorld(w), allOfWorld(roomyWorld(w))
	all := impl.Play(given, l)
	if !sameWorld(all, one) {
		t.Fatalf("%s: Play of %+v makes\n%+v; one by one\n%+v", name, l, shortly(all), shortly(one))
	}
	for at := range len(l) + 1 {
		if parts := impl.Play(impl.Play(given, l[:at]), l[at:]); !sameWorld(parts, all) {
			t.Fatalf("%s: parted at %d Play of %+v makes\n%+v; want\n%+v", name, at, l, shortly(parts), shortly(all))
		}
	}
	parts := impl.Play(given, nil)
	for from := 0; from < len(l); from += 7 {
		parts = impl.Play(impl.Play(parts, l[from:min(from+7, len(l))]), nil)
	}
	if !sameWorld(parts, all) {
		t.Fatalf("%s: in many parts Play of %+v makes\n%+v; want\n%+v", name, l, shortly(parts), shortly(all))
	}
	if !sameWorld(allOfWorld(given), was) {
		t.Fatalf("%s: Play changes or shares the world", name)
	}
}

// P1: Play of two lists, one behind the other, is Play of both in one, wherever they are parted.
func TestP1PlayInParts(t *testing.T) {
	d := dice(127)
	for i := range 60 {
		m := moods()[i%len(moods())]
		w, _ := impl.WorldNew(1 + d.below(40))
		lookParts(t, "a new world", w, d.aPlay(m, w, d.below(45)))
	}
	eachWorld(rightWorlds(), func(name string, w impl.World) {
		if len(w.Disk.Cells)+len(w.Hub.Log.Disk.Cells) < 600 {
			lookParts(t, name, w, steps(taking(tick), syncing, taking(deposit(3)), crashing(127), starting, turning(rule(60, 70, 5, 5, 100)), starting, impl.Step{Kind: 9}, taking(tick)))
		}
	})
}

// P1: of a world that isn't right Play is nothing behind the first step, and in parts too; without a step it is the world as it is.
func TestP1PlayOfWrongWorlds(t *testing.T) {
	d := dice(128)
	eachWorld(wrongWorlds(), func(name string, w impl.World) {
		if got := impl.Play(w, nil); !sameWorld(got, w) {
			t.Errorf("%s: Play of nothing makes %+v", name, shortly(got))
		}
		if len(w.Took) < 100 {
			lookParts(t, name, w, everyKind(&d, w)[:4])
		}
	})
}

// P1: a play told out.
func TestP1PlayToldOut(t *testing.T) {
	w, _ := impl.WorldNew(12)
	l := takingAll(saidAll("tick", "deposit 1000", "open 1 200 300", "open 2 400 100", "open 2 1 1", "price 2 1 50000")...)
	l = append(steps(taking(tick), syncing, starting), append(l, syncing)...)
	l = append(l, taking(said("admit 7 1 2 101 no")), taking(tick), taking(said("fulfill 7")), crashing(128, 128, 127), taking(tick), starting)
	w = impl.Play(w, l)
	es := saidAll("tick", "deposit 1000", "open 1 200 300", "open 2 400 100", "price 2 1 50000", "admit 7 1 2 101 no", "tick")
	book := impl.Book{Tick: 2, Next: 5, Wallet: 400,
		Chans: chans(impl.Chan{Id: 1, Size: 500, Local: 200, Remote: 192}, impl.Chan{Id: 2, Size: 500, Local: 299, Remote: 100, Base: 1, Ppm: 50000}),
		Htlcs: htlcs(impl.Htlc{Key: 7, In: 1, Out: 2, AmtIn: 108, AmtOut: 101, Age: 1})}
	if !w.Up || !slices.Equal(w.Took, es) || !slices.Equal(w.Sent, es) || !slices.Equal(w.Codes, codes(0, 0, 0, 0, 3, 0, 0, 0, 0)) || !sameBook(w.Hub.Book, book) || w.Hub.Log.Epoch != 2 {
		t.Errorf("the play makes %+v", shortly(w))
	}
	w = impl.Play(w, steps(turning(rule(59, 61, 10, 3, 100000)), syncing, taking(said("fulfill 7"))))
	es = append(es, said("price 1 0 10"), said("fulfill 7"))
	if !slices.Equal(w.Took, es) || !slices.Equal(w.Sent, es[:8]) || w.Hub.Book.Chans[0].Ppm != 10 || w.Hub.Book.Chans[1].Ppm != 50000 || !slices.Equal(w.Codes[9:], codes(0, 0)) {
		t.Errorf("more of the play makes %+v", shortly(w))
	}
	lookP1(t, "the play", w)
}

// P1: a turn is a take for each of its events.
func TestP1TurnsAreTakes(t *testing.T) {
	d, many := dice(129), 0
	for i := range 120 {
		m := moods()[i%len(moods())]
		w, _ := impl.WorldNew(6 + d.below(40))
		w = impl.Play(w, d.aPlay(m, w, 4+d.below(20)))
		if !w.Up {
			w = impl.Do(w, starting)
		}
		for range 5 {
			r := d.rule()
			l := impl.Turns(w.Hub.Book, r)
			if !sameWorld(impl.Do(w, turning(r)), impl.Play(w, takingAll(l...))) {
				t.Fatalf("a turn by %+v of %+v isn't the takes of %+v", r, shortly(w), l)
			}
			many += min(1, len(l)/2)
			w = impl.Do(w, turning(r))
		}
	}
	if many < 50 {
		t.Errorf("%d turns have two events or more: the test looks at too few", many)
	}
}
