package tests

import (
	"bytes"
	"slices"
	"testing"

	"loop.example/g00400/impl"
)

// isBeginning tells whether found is a beginning of taken, with the first synced of them at least.
func isBeginning(found []impl.Event, taken []impl.Event, synced int) bool {
	return len(found) >= synced && len(found) <= len(taken) && slices.Equal(found, taken[:len(found)])
}

// cameWhole counts the first of the writes that wait in d whose cells hold just their bytes in after.
func cameWhole(d impl.Disk, after impl.Disk) int {
	for i, w := range d.Dirty {
		if b, _ := impl.DiskRead(after, w.At); !bytes.Equal(b, w.Bytes) {
			return i
		}
	}
	return len(d.Dirty)
}

// olderRun is a disk of n cells on which a run of events was lost but for what lies behind the first cell of it; these have Amts above 1000.
func olderRun(t *testing.T, n int, epoch int) impl.Disk {
	t.Helper()
	d := laid(n)
	if epoch > 1 {
		d = with(d, n-1, mark(n-1, epoch-1))
	}
	l, _ := opened(t, d)
	for at := l.Next; at < n-1; at++ {
		l = added(t, l, deposit(1000+at))
	}
	keep := slices.Repeat([]int{128}, len(l.Disk.Dirty))
	keep[0] = 0
	return impl.DiskCrash(l.Disk, keep)
}

// oldDisks are disks of n cells by name: new ones and ones over what older runs left there, none of which tells an event.
func oldDisks(t *testing.T, n int) map[string]impl.Disk {
	t.Helper()
	return map[string]impl.Disk{
		"new":                         laid(n),
		"over epoch 1":                olderRun(t, n, 1),
		"over epoch 255":              olderRun(t, n, 255),
		"over epoch 65535":            olderRun(t, n, 65535),
		"over no sectors":             disk(n),
		"over sectors of other cells": laid(n, mark(0, 4), eventSector(2, 4, tick), eventSector(1, 3, tick), eventSector(3, 5, tick)),
	}
}

// lookFound holds what is found behind a crash against P2: the events of taken that came, and nothing else, however often it is opened.
func lookFound(t *testing.T, d impl.Disk, taken []impl.Event, synced int) bool {
	t.Helper()
	found := impl.LogEvents(d)
	l, es, code := impl.LogOpen(d)
	again, more, also := impl.LogOpen(l.Disk)
	if code != 0 || also != 0 || !isBeginning(found, taken, synced) || !slices.Equal(es, found) || !slices.Equal(more, found) {
		t.Errorf("of %v with %d synced is found %v, opened %v, twice %v, codes %d and %d", taken, synced, found, es, more, code, also)
		return false
	}
	next := added(t, again, deposit(77))
	want := append(slices.Clone(found), deposit(77))
	for _, keep := range [][]int{nil, {0}, {1}, {64}, {127}, {128}} {
		if got := impl.LogEvents(impl.DiskCrash(next.Disk, keep)); !isBeginning(got, want, len(found)) {
			t.Errorf("one more behind %v, crashed with %v, is %v", found, keep, got)
			return false
		}
	}
	return slices.Equal(impl.LogEvents(impl.LogSync(next).Disk), want)
}

// P2: whatever each crash keeps of up to three writes that wait, on a new disk and over older sectors: a beginning is found, with all that was synced.
func TestP2EachCrash(t *testing.T) {
	numbers := []int{-1, 0, 1, 6, 7, 8, 20, 64, 125, 126, 127, 128, 129}
	bases := oldDisks(t, 12)
	bases["over a log with events"] = impl.DiskCrash(added(t, newLog(t, 12), deposit(501), tick, deposit(502)).Disk, []int{128, 128, 127})
	for name, base := range bases {
		t.Run(name, func(t *testing.T) {
			for synced := range 3 {
				for count := range 4 {
					l, taken := opened(t, base)
					l = impl.LogSync(added(t, l, someEvents(synced)...))
					taken = append(taken, someEvents(synced)...)
					safe := len(taken)
					for i := range count {
						l = added(t, l, deposit(100+i))
						taken = append(taken, deposit(100+i))
					}
					for _, keep := range crashKeeps(count, numbers) {
						after := impl.DiskCrash(l.Disk, keep)
						if !lookFound(t, after, taken, safe) {
							t.Fatalf("%d synced, %d wait, crashed with %v", synced, count, keep)
						}
						if got := len(impl.LogEvents(after)); got != safe+cameWhole(l.Disk, after) {
							t.Fatalf("%d synced, %d wait, crashed with %v: %d found, but %d of what waited came", synced, count, keep, got, cameWhole(l.Disk, after))
						}
					}
				}
			}
		})
	}
}

// P2: behind LogSync no crash takes an event away, whatever is added behind it.
func TestP2SyncedStays(t *testing.T) {
	for _, base := range []impl.Disk{laid(40), olderRun(t, 40, 1), olderRun(t, 40, 256)} {
		l, taken := opened(t, base)
		safe := len(taken)
		for i, e := range someEvents(30) {
			l = added(t, l, e)
			taken = append(taken, e)
			for _, keep := range keeps(l.Disk) {
				if got := impl.LogEvents(impl.DiskCrash(l.Disk, keep)); !isBeginning(got, taken, safe) {
					t.Fatalf("crashed with %v: %v of %v with %d synced", keep, got, taken, safe)
				}
			}
			if i%4 == 3 {
				l = impl.LogSync(l)
				safe = len(taken)
			}
		}
	}
}

// P2: a sector that lies behind the first cell that doesn't fit is not read again, however often the log is opened and added to.
func TestP2OldNeverComesBack(t *testing.T) {
	for _, epoch := range []int{1, 250, 255, 256, 65530} {
		for each := range 4 {
			d := olderRun(t, 40, epoch)
			if top := impl.LogTop(d); top != epoch {
				t.Fatalf("the older run has epoch %d; want %d", top, epoch)
			}
			var taken []impl.Event
			for round := range 40 {
				l, es, code := impl.LogOpen(d)
				if code != 0 {
					break
				}
				if !slices.Equal(es, taken) {
					t.Fatalf("opened the time %d behind epoch %d: %v; want %v", round, epoch, es, taken)
				}
				for range each {
					e := deposit(1 + len(taken))
					next, code := impl.LogAdd(l, e)
					if code != 0 {
						break
					}
					l = next
					taken = append(taken, e)
					if got := impl.LogEvents(l.Disk); !slices.Equal(got, taken) {
						t.Fatalf("added to in the round %d: %v; want %v", round, got, taken)
					}
				}
				d = impl.LogSync(l).Disk
			}
			if _, n := impl.LogRead(d); n != 40 {
				t.Errorf("behind epoch %d with %d each time the log ends at %d", epoch, each, n)
			}
		}
	}
}

// P2: the same with a crash each time, that loses all that waits or keeps only what lies behind.
func TestP2LostNeverComesBack(t *testing.T) {
	for _, keep := range [][]int{nil, {0, 128, 128, 128}, {127, 128, 128, 128}, {1, 128, 128}, {64, 127, 126, 128}} {
		d := olderRun(t, 40, 1)
		for range 39 {
			l, es := opened(t, d)
			if len(es) != 0 {
				t.Fatalf("with %v kept each time %v comes back", keep, es)
			}
			for i := range 4 {
				if next, code := impl.LogAdd(l, deposit(2000+i)); code == 0 {
					l = next
				}
			}
			d = impl.DiskCrash(l.Disk, keep)
		}
		if _, _, code := impl.LogOpen(d); code != 2 {
			t.Errorf("with no cell left LogOpen has code %d", code)
		}
	}
}

// life is a log that is played by chance, with what it has taken and how much of that is synced.
type life struct {
	log    impl.Log
	taken  []impl.Event
	synced int
	count  int
}

// step adds, syncs, or crashes and opens; false where the disk is full.
func (x *life) step(t *testing.T, c *dice) bool {
	t.Helper()
	switch n := c.below(10); {
	case n < 6:
		x.count++
		next, code := impl.LogAdd(x.log, deposit(x.count))
		if code != 0 {
			return false
		}
		x.log, x.taken = next, append(x.taken, deposit(x.count))
	case n < 8:
		x.log, x.synced = impl.LogSync(x.log), len(x.taken)
	default:
		var keep []int
		for range c.below(len(x.log.Disk.Dirty) + 2) {
			keep = append(keep, []int{0, 1, 127, 128, 128, 128, c.below(129)}[c.below(7)])
		}
		after := impl.DiskCrash(x.log.Disk, keep)
		found := impl.LogEvents(after)
		if !isBeginning(found, x.taken, x.synced) || len(found) != x.synced+cameWhole(x.log.Disk, after) {
			t.Fatalf("crashed with %v: %v of %v with %d synced", keep, found, x.taken, x.synced)
		}
		l, es, code := impl.LogOpen(after)
		if code != 0 {
			return false
		}
		if !slices.Equal(es, found) || l.Epoch != impl.LogTop(after)+1 {
			t.Fatalf("opened: %v in epoch %d; want %v", es, l.Epoch, found)
		}
		x.log, x.taken, x.synced = l, found, len(found)
	}
	if got := impl.LogEvents(x.log.Disk); !slices.Equal(got, x.taken) {
		t.Fatalf("the log tells %v; want %v", got, x.taken)
	}
	return true
}

// P2: lives of many crashes: each time what is found is a beginning of what was taken, with all that was synced, and no event of an earlier run.
func TestP2LivesByChance(t *testing.T) {
	c := dice(34)
	for range 300 {
		n := 20 + c.below(60)
		d := laid(n)
		if start := []int{0, 240, 250, 65530}[c.below(4)]; start > 0 {
			d = with(d, n-1, mark(n-1, start))
		}
		l, _ := opened(t, d)
		x := life{log: l}
		// Some steps only sync; still the disk is full long before this many.
		for left := 2000; x.step(t, &c); left-- {
			if left == 0 {
				t.Fatal("the disk is never full")
			}
		}
	}
}
