package tests

import (
	"slices"
	"strings"
	"testing"

	"loop.example/g00400/impl"
)

// P10: an event is read from a text as it was written, and no two are written alike.
func TestP10EventTexts(t *testing.T) {
	seen := map[string]impl.Event{}
	for _, f := range eventForms() {
		for _, e := range f.events() {
			s := impl.EventText(e)
			if s != rawText(e) {
				t.Fatalf("EventText(%+v) = %q; want %q", e, s, rawText(e))
			}
			if other, ok := seen[s]; ok {
				t.Errorf("%+v and %+v have the same text", other, e)
			}
			seen[s] = e
			if got, ok := impl.TextEvent(s); !ok || got != e {
				t.Fatalf("TextEvent(%q) = %+v, %v; want %+v", s, got, ok, e)
			}
		}
	}
}

func noText(t *testing.T, what string, s string) {
	t.Helper()
	if got, ok := impl.TextEvent(s); ok || got != (impl.Event{}) {
		t.Errorf("%s: TextEvent(%.60q) = %+v, %v", what, s, got, ok)
	}
}

// P10: texts that are no event's, written out.
func TestP10TextsOfNoEvent(t *testing.T) {
	for _, s := range []string{
		"", " ", "  ", "\n", "0", "1", "yes", "no", "1 2 3", "sync", "take tick", "start", "crash", "turn",
		"tick ", " tick", "tick 0", "tick 1", "tick yes", "ticks", "tic", "Tick", "TICK", "tick\n", "\ttick", "tick\x00", "tick tick", "tick\ntick",
		"deposit", "deposit ", "deposit 0", "deposit -1", "deposit +1", "deposit 01", "deposit 1125899906842625", "deposit 1 ", "deposit  1", "deposit 1 1",
		"deposit 18446744073709551617", "deposit 9223372036854775808", "deposit 1.0", "deposit 1e3", "deposit 0x1", "deposit 1_0", "deposit ５", "deposit ٣", "deposit one",
		"deposit1", "deposit\t1", "deposit\u00a01", "deposit,1", "deposit:1",
		"open", "open 1", "open 1 2", "open 0 2 3", "open 100 2 3", "open 1 0 3", "open 1 2 -1", "open 1 2 -0", "open 1 2 03", "open 1 2 3 4", "open 1 2 1125899906842625", "open  1 2 3", "open 1 2  3", "open 1  2 3",
		"close", "close 1", "close 0 1", "close 100 1", "close 1 -1", "close 1 2 3", "close 1 1125899906842625",
		"price", "price 1", "price 1 2", "price 0 1 1", "price 100 1 1", "price 1 -1 1", "price 1 0 1000001", "price 1 0 -1", "price 1 0 1 0", "price 1 1125899906842625 0",
		"admit", "admit 1", "admit 1 1 2 5", "admit 1 1 2 yes", "admit 1 1 1 5 no", "admit 0 1 2 5 no", "admit 1000001 1 2 5 no", "admit 1 0 2 5 no", "admit 1 1 0 5 no", "admit 1 1 100 5 no", "admit 1 1 2 0 no", "admit 1 1 2 -1 no",
		"admit 1 1 2 5 Yes", "admit 1 1 2 5 YES", "admit 1 1 2 5 No", "admit 1 1 2 5 ye", "admit 1 1 2 5 yess", "admit 1 1 2 5 y", "admit 1 1 2 5 n", "admit 1 1 2 5 true", "admit 1 1 2 5 false", "admit 1 1 2 5 1", "admit 1 1 2 5 0", "admit 1 1 2 5 ", "admit 1 1 2 5 yes no", "admit 1 1 2 5 no yes", "admit 1 1 2 5 yes yes", "admit 1 1 2 5 yes ", "admit 1 1 2 5 0 yes", "admit 1 1 2 5  yes", "admit 1 1 2 5 yes|no", "admit yes", "admit 1 1 2 5 6",
		"fulfill", "fulfill 0", "fulfill 1000001", "fulfill 1 1", "fulfill -1", "fulfill 01", "fulfil 1", "Fulfill 1", "fulfill 1 yes",
		"fail", "fail 0", "fail 1000001", "fail 1 1", "failed 1", "fail 1\n",
		"launch", "launch 7 1 2 500", "launch 7 1 2 500 6 7", "launch 7 1 1 500 6", "launch 0 1 2 500 6", "launch 1000001 1 2 500 6", "launch 7 0 2 500 6", "launch 7 1 100 500 6", "launch 7 1 2 0 6", "launch 7 1 2 500 -6", "launch 7 1 2 500 no", "launch 7 1 2 500 6 no", "launch 7 1 2 500 1125899906842625", "launch 7 1 2 500 6 ", "launch 7 1 2 500 6  ",
		"arrive", "arrive 0", "arrive 1000001", "arrive 1 1", "arrived 1",
		"lost", "lost 0", "lost 1000001", "lost 1 1", "lose 1",
		"unknown", "unknown 1", "event 1", "deposit 1\ndeposit 1", "\xff", "deposit \xff", "tick\xff", "tíck",
		strings.Repeat(" ", 100000), strings.Repeat("tick ", 20000), "deposit " + strings.Repeat("0", 100000) + "1", "deposit " + strings.Repeat("9", 100000), "tick" + strings.Repeat(" ", 100000), "launch" + strings.Repeat(" 1", 50000),
	} {
		noText(t, "no event's", s)
	}
}

// P10: what goes wrong with the right text of each kind.
func TestP10TextsNearEvents(t *testing.T) {
	for _, f := range eventForms() {
		for _, e := range f.ends() {
			s := rawText(e)
			if got, ok := impl.TextEvent(s); !ok || got != e {
				t.Fatalf("TextEvent(%q) = %+v, %v; want %+v", s, got, ok, e)
			}
			words := strings.Split(s, " ")
			noText(t, "a blank ahead", " "+s)
			noText(t, "a blank behind", s+" ")
			noText(t, "a word too many", s+" 1")
			noText(t, "a zero too many", s+" 0")
			noText(t, "a word too many ahead", "1 "+s)
			noText(t, "a yes too many", s+" yes")
			noText(t, "twice", s+" "+s)
			noText(t, "ended", s+"\n")
			noText(t, "great letters", strings.ToUpper(s))
			noText(t, "a great letter", strings.ToUpper(s[:1])+s[1:])
			noText(t, "the word cut", s[1:])
			noText(t, "another word", "x"+s)
			for i := 1; i < len(words); i++ {
				noText(t, "two blanks", strings.Join(words[:i], " ")+"  "+strings.Join(words[i:], " "))
				noText(t, "no blank", strings.Join(words[:i], " ")+strings.Join(words[i:], " "))
				noText(t, "another blank", strings.Join(words[:i], " ")+"\t"+strings.Join(words[i:], " "))
				noText(t, "a word too few", strings.Join(slices.Delete(slices.Clone(words), i, i+1), " "))
				noText(t, "the end missing", strings.Join(words[:i], " "))
			}
		}
	}
}

// P10: at each place of a number one that NumText never writes, or none at all.
func TestP10TextsOfWrongNumbers(t *testing.T) {
	for _, f := range eventForms() {
		words := strings.Split(rawText(f.plain()), " ")
		for i := 1; i < len(words); i++ {
			for _, n := range []string{
				"", "-", "+", "-0", "+0", "00", "+" + words[i], "0" + words[i], "-" + words[i], words[i] + ".", words[i] + ".0", words[i] + "e0", "0x" + words[i], words[i] + "_0",
				"1125899906842625", "-1", "-1125899906842624", "9223372036854775807", "9223372036854775808", "-9223372036854775808", "18446744073709551616", "18446744073709551617", strings.Repeat("9", 400),
				"x", "yess", "Yes", "NO", "nil", "amt", "１", "1\n", "\x00",
			} {
				changed := slices.Clone(words)
				changed[i] = n
				noText(t, "a wrong number", strings.Join(changed, " "))
			}
		}
	}
}

// P10: with any one byte put in, taken out or changed it is no event's text, or another event's whose text it is.
func TestP10EventTextChanged(t *testing.T) {
	r := newTextReader()
	right, wrong := 0, 0
	look := func(s string) {
		if r.look(t, s) {
			right++
		} else {
			wrong++
		}
	}
	for _, f := range eventForms() {
		for _, e := range f.ends() {
			s := rawText(e)
			for at := range len(s) + 1 {
				for _, c := range " 0159-+aeonsy\n\x00" {
					look(s[:at] + string(c) + s[at:])
					if at < len(s) {
						look(s[:at] + string(c) + s[at+1:])
					}
				}
				if at < len(s) {
					look(s[:at] + s[at+1:])
					look(s[:at])
					look(s[at:])
				}
			}
		}
	}
	if right < 1000 || wrong < 1000 {
		t.Errorf("%d right ones and %d wrong ones: the test looks at one side only", right, wrong)
	}
}

// P13: the texts of each kind, written out.
func TestP13EventText(t *testing.T) {
	for s, e := range map[string]impl.Event{
		"deposit 1":                              {Kind: impl.EvDeposit, Amt: 1},
		"deposit 1125899906842624":               {Kind: impl.EvDeposit, Amt: top},
		"open 1 2 0":                             {Kind: impl.EvOpen, Ch: 1, Amt: 2},
		"open 99 1000000 1125899906842624":       {Kind: impl.EvOpen, Ch: 99, Amt: 1000000, Fee: top},
		"close 3 0":                              {Kind: impl.EvClose, Ch: 3},
		"close 99 250":                           {Kind: impl.EvClose, Ch: 99, Fee: 250},
		"price 7 0 0":                            {Kind: impl.EvPrice, Ch: 7},
		"price 8 1125899906842624 1000000":       {Kind: impl.EvPrice, Ch: 8, Amt: top, Fee: 1000000},
		"admit 258 1 2 3 yes":                    {Kind: impl.EvAdmit, Key: 258, Ch: 1, To: 2, Amt: 3, Yes: true},
		"admit 1000000 99 98 1 no":               {Kind: impl.EvAdmit, Key: 1000000, Ch: 99, To: 98, Amt: 1},
		"fulfill 1":                              {Kind: impl.EvFulfill, Key: 1},
		"fail 1000000":                           {Kind: impl.EvFail, Key: 1000000},
		"tick":                                   {Kind: impl.EvTick},
		"launch 7 1 2 500 6":                     {Kind: impl.EvLaunch, Key: 7, Ch: 1, To: 2, Amt: 500, Fee: 6},
		"launch 7 2 1 1125899906842624 0":        {Kind: impl.EvLaunch, Key: 7, Ch: 2, To: 1, Amt: top},
		"launch 1 9 8 1125899906842624 " + topIs: {Kind: impl.EvLaunch, Key: 1, Ch: 9, To: 8, Amt: top, Fee: top},
		"arrive 42":                              {Kind: impl.EvArrive, Key: 42},
		"lost 999999":                            {Kind: impl.EvLost, Key: 999999},
	} {
		if got := impl.EventText(e); got != s {
			t.Errorf("EventText(%+v) = %q; want %q", e, got, s)
		}
		if got, ok := impl.TextEvent(s); !ok || got != e {
			t.Errorf("TextEvent(%q) = %+v, %v; want %+v", s, got, ok, e)
		}
	}
}

const topIs = "1125899906842624"

// P13: the text that wrong fields would have is read only where it is another, right event's.
func TestP13TextEventOfWrongFields(t *testing.T) {
	r := newTextReader()
	for _, f := range eventForms() {
		for _, base := range f.ends() {
			for _, field := range eventFields {
				for _, n := range fieldEdges() {
					r.look(t, rawText(withField(base, field, n)))
				}
			}
		}
	}
}

// P13: texts of words put together by chance are read as the event that has them or as none.
func TestP13TextEventByChance(t *testing.T) {
	words := []string{"deposit", "open", "close", "price", "admit", "fulfill", "fail", "tick", "launch", "arrive", "lost"}
	behind := []string{"1", "2", "3", "99", "1000000", "1000001", "1", "2", "0", "100", topIs, "1125899906842625", "yes", "no", "", "01", "-1", "x", "tick"}
	r := newTextReader()
	d := dice(31)
	right := 0
	for range 200000 {
		text := []string{words[d.below(len(words))]}
		for range d.below(7) {
			text = append(text, behind[min(d.below(len(behind)), d.below(len(behind)))])
		}
		if d.below(3) == 0 {
			text = append(text, []string{"yes", "no"}[d.below(2)])
		}
		if r.look(t, strings.Join(text, " ")) {
			right++
		}
	}
	if right < 5000 || right > 195000 {
		t.Errorf("of 200000 made by chance %d are right: the test looks at one side only", right)
	}
}
