package tests

import (
	"fmt"
	"testing"

	"loop.example/g00400/impl"
)

func TestP13EventConstants(t *testing.T) {
	for at, kind := range []int{
		impl.EvDeposit, impl.EvOpen, impl.EvClose, impl.EvPrice, impl.EvAdmit, impl.EvFulfill,
		impl.EvFail, impl.EvTick, impl.EvLaunch, impl.EvArrive, impl.EvLost,
	} {
		if kind != at+1 {
			t.Errorf("kind %d is %d", at+1, kind)
		}
	}
	if impl.MaxKey != 1000000 {
		t.Errorf("MaxKey %d", impl.MaxKey)
	}
}

// lookEvent holds every function that takes an event to the one answer on whether it is right.
func lookEvent(t *testing.T, e impl.Event, want bool) {
	t.Helper()
	if got := impl.EventOk(e); got != want {
		t.Errorf("EventOk(%+v) = %v", e, got)
	}
	wantText, wantBytes := "", ""
	if want {
		wantText, wantBytes = rawText(e), string(rawBody(e))
	}
	if got := impl.EventText(e); got != wantText {
		t.Errorf("EventText(%+v) = %q; want %q", e, got, wantText)
	}
	if got, ok := impl.EventBody(e); ok != want || string(got) != wantBytes {
		t.Errorf("EventBody(%+v) = %v, %v; want %v, %v", e, got, ok, []byte(wantBytes), want)
	}
}

// P13: the edges that the chapter names, field by field, written out.
func TestP13EventOk(t *testing.T) {
	type edge struct {
		n    int
		want bool
	}
	keys := []edge{{leastInt, false}, {-1, false}, {0, false}, {1, true}, {2, true}, {999999, true}, {1000000, true}, {1000001, false}, {greatestInt, false}}
	chs := []edge{{leastInt, false}, {-1, false}, {0, false}, {1, true}, {50, true}, {99, true}, {100, false}, {257, false}, {greatestInt, false}}
	amts := []edge{{leastInt, false}, {-1, false}, {0, true}, {1, true}, {1000001, true}, {top - 1, true}, {top, true}, {top + 1, false}, {greatestInt, false}}
	above := []edge{{leastInt, false}, {-1, false}, {0, false}, {1, true}, {1000001, true}, {top - 1, true}, {top, true}, {top + 1, false}, {greatestInt, false}}
	ppms := []edge{{leastInt, false}, {-1, false}, {0, true}, {1, true}, {999999, true}, {1000000, true}, {1000001, false}, {top, false}, {greatestInt, false}}
	for _, c := range []struct {
		base  impl.Event
		field string
		edges []edge
	}{
		{impl.Event{Kind: impl.EvDeposit, Amt: 5}, "Amt", above},
		{impl.Event{Kind: impl.EvOpen, Ch: 3, Amt: 5}, "Ch", chs},
		{impl.Event{Kind: impl.EvOpen, Ch: 3, Amt: 5}, "Amt", above},
		{impl.Event{Kind: impl.EvOpen, Ch: 3, Amt: 5}, "Fee", amts},
		{impl.Event{Kind: impl.EvClose, Ch: 3}, "Ch", chs},
		{impl.Event{Kind: impl.EvClose, Ch: 3}, "Fee", amts},
		{impl.Event{Kind: impl.EvPrice, Ch: 3}, "Ch", chs},
		{impl.Event{Kind: impl.EvPrice, Ch: 3}, "Amt", amts},
		{impl.Event{Kind: impl.EvPrice, Ch: 3}, "Fee", ppms},
		{impl.Event{Kind: impl.EvAdmit, Key: 7, Ch: 3, To: 4, Amt: 5}, "Key", keys},
		{impl.Event{Kind: impl.EvAdmit, Key: 7, Ch: 3, To: 4, Amt: 5, Yes: true}, "Ch", chs},
		{impl.Event{Kind: impl.EvAdmit, Key: 7, Ch: 3, To: 4, Amt: 5}, "To", chs},
		{impl.Event{Kind: impl.EvAdmit, Key: 7, Ch: 3, To: 4, Amt: 5, Yes: true}, "Amt", above},
		{impl.Event{Kind: impl.EvFulfill, Key: 7}, "Key", keys},
		{impl.Event{Kind: impl.EvFail, Key: 7}, "Key", keys},
		{impl.Event{Kind: impl.EvLaunch, Key: 7, Ch: 3, To: 4, Amt: 5}, "Key", keys},
		{impl.Event{Kind: impl.EvLaunch, Key: 7, Ch: 3, To: 4, Amt: 5}, "Ch", chs},
		{impl.Event{Kind: impl.EvLaunch, Key: 7, Ch: 3, To: 4, Amt: 5}, "To", chs},
		{impl.Event{Kind: impl.EvLaunch, Key: 7, Ch: 3, To: 4, Amt: 5}, "Amt", above},
		{impl.Event{Kind: impl.EvLaunch, Key: 7, Ch: 3, To: 4, Amt: 5}, "Fee", amts},
		{impl.Event{Kind: impl.EvArrive, Key: 7}, "Key", keys},
		{impl.Event{Kind: impl.EvLost, Key: 7}, "Key", keys},
	} {
		for _, x := range c.edges {
			lookEvent(t, withField(c.base, c.field, x.n), x.want)
		}
	}
}

// P13: a kind that isn't known is right with no fields at all.
func TestP13EventKinds(t *testing.T) {
	for _, kind := range []int{leastInt, leastInt + 1, -11, -1, 0, 12, 13, 255, 256, 257, 256 + impl.EvTick, 1<<32 + impl.EvTick, 1<<32 + 1, greatestInt} {
		lookEvent(t, impl.Event{Kind: kind}, false)
		for _, f := range eventForms() {
			for _, e := range f.ends() {
				lookEvent(t, withField(e, "Kind", kind), false)
			}
		}
	}
	lookEvent(t, impl.Event{}, false)
	lookEvent(t, impl.Event{Kind: 1, Amt: 1}, true)
	lookEvent(t, impl.Event{Kind: 11, Key: 1}, true)
}

// P13: channels that are alike are wrong where both are asked for.
func TestP13EventChannelsAlike(t *testing.T) {
	for _, kind := range []int{impl.EvAdmit, impl.EvLaunch} {
		for _, ch := range []int{leastInt, -1, 0, 1, 2, 50, 99, 100, greatestInt} {
			lookEvent(t, impl.Event{Kind: kind, Key: 1, Ch: ch, To: ch, Amt: 1}, false)
		}
		for _, c := range [][2]int{{1, 2}, {2, 1}, {1, 99}, {99, 1}, {98, 99}, {99, 98}} {
			lookEvent(t, impl.Event{Kind: kind, Key: 1, Ch: c[0], To: c[1], Amt: 1}, true)
		}
		for _, c := range [][2]int{{0, 1}, {1, 0}, {99, 100}, {100, 99}, {0, 100}, {-1, 1}, {1, -1}} {
			lookEvent(t, impl.Event{Kind: kind, Key: 1, Ch: c[0], To: c[1], Amt: 1}, false)
		}
	}
}

// P13: for each kind every field that must be zero, and isn't.
func TestP13EventFieldsOfOthers(t *testing.T) {
	foreign := map[int][]string{
		impl.EvDeposit: {"Key", "Ch", "To", "Fee", "Yes"},
		impl.EvOpen:    {"Key", "To", "Yes"},
		impl.EvClose:   {"Key", "To", "Amt", "Yes"},
		impl.EvPrice:   {"Key", "To", "Yes"},
		impl.EvAdmit:   {"Fee"},
		impl.EvFulfill: {"Ch", "To", "Amt", "Fee", "Yes"},
		impl.EvFail:    {"Ch", "To", "Amt", "Fee", "Yes"},
		impl.EvTick:    {"Key", "Ch", "To", "Amt", "Fee", "Yes"},
		impl.EvLaunch:  {"Yes"},
		impl.EvArrive:  {"Ch", "To", "Amt", "Fee", "Yes"},
		impl.EvLost:    {"Ch", "To", "Amt", "Fee", "Yes"},
	}
	for _, f := range eventForms() {
		for _, e := range f.ends() {
			lookEvent(t, e, true)
			for _, name := range foreign[f.kind] {
				if name == "Yes" {
					e.Yes = true
					lookEvent(t, e, false)
					e.Yes = false
					continue
				}
				for _, n := range []int{leastInt, -1, 1, 2, 99, 256, 1000000, 1 << 24, top, 1 << 56, greatestInt} {
					lookEvent(t, withField(e, name, n), false)
				}
			}
		}
	}
}

// P13: for each kind every number of fieldEdges in each field, and in every two of them together.
func TestP13EventsNearby(t *testing.T) {
	right, wrong := 0, 0
	for _, f := range eventForms() {
		t.Run(fmt.Sprint("kind ", f.kind), func(t *testing.T) {
			for _, base := range f.ends() {
				for i, one := range eventFields {
					for _, two := range eventFields[i:] {
						for _, n := range fieldEdges() {
							for _, m := range fieldEdges() {
								e := withField(withField(base, one, n), two, m)
								want := wantEventOk(e)
								if want {
									right++
								} else {
									wrong++
								}
								lookEvent(t, e, want)
							}
						}
						if t.Failed() {
							return
						}
					}
				}
			}
		})
	}
	if right < 1000 || wrong < 1000 {
		t.Errorf("%d right ones and %d wrong ones: the test looks at one side only", right, wrong)
	}
}
