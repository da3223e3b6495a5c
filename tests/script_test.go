package tests

import (
	"slices"
	"strings"
	"testing"

	"loop.example/g00400/impl"
)

// wantScript reads a script as the chapter says it, by itself.
func (r stepReader) wantScript(text string) ([]impl.Step, int) {
	if len(text) > 8000 {
		return nil, 1
	}
	var l []impl.Step
	for i, line := range strings.Split(text, "\n") {
		if line == "" || strings.HasPrefix(line, "#") {
			continue
		}
		s, ok := r.want(line)
		if !ok || len(l) == 300 {
			return nil, i + 1
		}
		l = append(l, s)
	}
	return l, 0
}

// look holds ReadScript against what the tests reckon, twice, and tells the line.
func (r stepReader) lookScript(t *testing.T, name string, text string) int {
	t.Helper()
	want, line := r.wantScript(text)
	for range 2 {
		got, n := impl.ReadScript(text)
		if !sameSteps(got, want) || n != line {
			t.Errorf("%s: ReadScript(%.80q) = %d steps, %d; want %d steps, %d", name, text, len(got), n, len(want), line)
		}
		for _, s := range got {
			blotList(s.Keep, -3)
		}
		blotList(got, crashing(-3))
	}
	return line
}

// P12: scripts are read as they were written, with lines between that say nothing, and with a last byte 10 and without.
func TestP12Scripts(t *testing.T) {
	d, r := dice(133), newStepReader()
	all := rightSteps()
	for range 2000 {
		var l []impl.Step
		var text strings.Builder
		for range d.below(40) {
			s := all[d.below(len(all))]
			line := impl.StepText(s)
			if text.Len()+len(line) > 7000 {
				continue
			}
			for range d.below(3) * d.below(2) {
				text.WriteString([]string{"\n", "#\n", "# take tick\n", "#sync\n", "# \xff\n", "##\n", "#\r\n", "# \xe2\x82\n", "# é€\n"}[d.below(9)])
			}
			text.WriteString(line + "\n")
			l = append(l, s)
		}
		script := text.String()
		for _, end := range []string{script, strings.TrimSuffix(script, "\n"), script + "\n", script + "#", script + "\n#\n", "\n" + script} {
			got, line := impl.ReadScript(end)
			if !sameSteps(got, l) || line != 0 {
				t.Fatalf("ReadScript(%q) = %+v, %d; want %+v", end, got, line, l)
			}
			r.lookScript(t, "steps", end)
		}
	}
}

// P13: scripts told out: what they tell, and the line that is told where one is wrong.
func TestP13ReadScript(t *testing.T) {
	r := newStepReader()
	for text, want := range map[string][]impl.Step{
		"":                              nil,
		"\n":                            nil,
		"\n\n\n":                        nil,
		"#":                             nil,
		"#\n":                           nil,
		"#\n\n# x\n\n":                  nil,
		"#x":                            nil,
		"# \x00\xff":                    nil,
		"#\r\n":                         nil,
		"#\r":                           nil,
		"# é\xe2\x82\n\n#\xf0\x9f\n":    nil,
		"sync":                          {syncing},
		"sync\n":                        {syncing},
		"sync\n\n":                      {syncing},
		"\nsync":                        {syncing},
		"#\nsync\n#":                    {syncing},
		"# sync\nstart":                 {starting},
		"# \xe2\x82\nstart":             {starting},
		"# \xf0\x9f\x98\nstart":         {starting},
		"# \xff\nstart":                 {starting},
		"#\xc0\x8anonsense\nstart":      {starting},
		"# \u2028nonsense\nstart":       {starting},
		"# \x85\r\v\fnonsense\nstart":   {starting},
		"start\nsync\ncrash\nstart":     {starting, syncing, crashing(), starting},
		"sync\nsync\n":                  {syncing, syncing},
		"crash 1 128\n\nturn 1 2 3 4 5": {crashing(1, 128), turning(rule(1, 2, 3, 4, 5))},
		"take tick\n#\n\ntake deposit 5\nsync\n# end": {taking(tick), taking(deposit(5)), syncing},
	} {
		got, line := impl.ReadScript(text)
		if !sameSteps(got, want) || line != 0 {
			t.Errorf("ReadScript(%q) = %+v, %d; want %+v", text, got, line, want)
		}
		r.lookScript(t, "right", text)
	}
	for text, want := range map[string]int{
		" ":                           1,
		"stop":                        1,
		"\r":                          1,
		"\r\n":                        1,
		"\x00":                        1,
		"\xff":                        1,
		" #":                          1,
		" \n":                         1,
		"sync\r\nstart\r\n":           1,
		"sync\nstart\r\n":             2,
		"sync\nstart\r":               2,
		"sync\n\r\nstart":             2,
		"#\r\nsync\r\n":               2,
		"\nstop":                      2,
		"\n\nstop\n":                  3,
		"#\n#\n#\nstop":               4,
		"sync\nstart\nstop\ncrash x":  3,
		"sync\nstart\ncrash\n ":       4,
		"sync\nstart\ncrash\n \n":     4,
		"sync\n\n# x\nstop":           4,
		"sync # x":                    1,
		"sync\n # x":                  2,
		"sync start":                  1,
		"sync\u2028start":             1,
		"sync\xc0\x8astart":           1,
		"sync\vstart":                 1,
		"sync\rstart":                 1,
		"sync\n\xe2\x82\nstart":       2,
		"start\ntake\n":               2,
		"start\ntake nothing\nsync":   2,
		"start\nturn 9 8 0 0 0":       2,
		"start\ncrash -1\nsync":       2,
		"start\nSync":                 2,
		"tick":                        1,
		"start\nsync\xff":             2,
		"start\n\xffsync\n":           2,
		"start\n\xef\xbb\xbfsync":     2,
		"\xef\xbb\xbf# x":             1,
		"take tick\n\n\n\n\n\ntake x": 7,
	} {
		got, line := impl.ReadScript(text)
		if len(got) > 0 || line != want {
			t.Errorf("ReadScript(%q) = %+v, %d; want line %d", text, got, line, want)
		}
		r.lookScript(t, "wrong", text)
	}
}

// P13: a line that isn't a step's at each place of a script, and of two wrong ones the first.
func TestP13ReadScriptWrongLine(t *testing.T) {
	r := newStepReader()
	lines := []string{"start", "", "take deposit 5", "# a line", "sync", "crash 5 128", "", "#", "start", "turn 30 70 10 5 100"}
	for at := range len(lines) + 1 {
		for _, bad := range []string{"stop", " ", "\r", "sync\r", " sync", "take", "\xff", "crash  1", "x#"} {
			for _, end := range []string{"", "\n", "\n\n", "\nstop", "\nsync\n \n"} {
				text := strings.Join(slices.Insert(slices.Clone(lines), at, bad), "\n") + end
				if line := r.lookScript(t, "a wrong line", text); line != at+1 {
					t.Errorf("%q: line %d; want %d", text, line, at+1)
				}
			}
		}
	}
}

// padded is a text of just n bytes that begins with the text, which is ended by byte 10; what is laid behind it says nothing.
func padded(text string, n int) string { return text + strings.Repeat("#", n-len(text)) }

// P13: MaxSteps steps and one more, wherever lines that say nothing stand.
func TestP13ReadScriptMaxSteps(t *testing.T) {
	r := newStepReader()
	look := func(name string, text string, line int) {
		t.Helper()
		if got := r.lookScript(t, name, text); got != line {
			t.Errorf("%s: line %d; want %d", name, got, line)
		}
		if l, _ := impl.ReadScript(text); line == 0 && len(l) > 300 || line > 0 && len(l) > 0 {
			t.Errorf("%s: %d steps are told", name, len(l))
		}
	}
	most := strings.Repeat("sync\n", 300)
	look("MaxSteps less 1", most[5:], 0)
	look("MaxSteps", most, 0)
	look("MaxSteps, no end", most[:len(most)-1], 0)
	look("MaxSteps and lines that say nothing", "\n# x\n"+most+"\n\n# sync\n#", 0)
	look("one more", most+"sync\n", 301)
	look("one more, no end", most+"sync", 301)
	look("one more that is no step", most+"stop", 301)
	look("one more behind lines that say nothing", most+"\n#\n\nstart", 304)
	look("one more, lines ahead", "\n#\n"+most+"start\n", 303)
	look("two more", most+"sync\nsync\n", 301)
	look("many more", strings.Repeat(most, 3), 301)
	look("a wrong line ahead", "stop\n"+most+"sync", 1)
	look("a wrong line among them", most[:50]+"stop\n"+most, 11)
	look("a wrong line the last of them", most[5:]+"stop\nsync\n", 300)
	look("a wrong line behind them", most+"\n\n ", 303)
	look("one more, then a wrong line", most+"sync\nstop", 301)
	look("one more of another Kind", most+"\ntake tick", 302)
	mixed := strings.Repeat("sync\n\n#\n", 299) + "take tick\n"
	look("MaxSteps with lines between", mixed, 0)
	look("one more with lines between", mixed+"\n#\nstart", 901)
}

// P13: MaxText bytes and one more, alone and together with the other limit.
func TestP13ReadScriptMaxText(t *testing.T) {
	r := newStepReader()
	most := strings.Repeat("take tick\n", 300)
	long := "crash" + strings.Repeat(" 128", 1998)
	for name, c := range map[string]struct {
		text string
		size int
		line int
	}{
		"a comment":                          {padded("", 8000), 8000, 0},
		"a comment too long":                 {padded("", 8001), 8001, 1},
		"empty lines":                        {strings.Repeat("\n", 8000), 8000, 0},
		"empty lines too many":               {strings.Repeat("\n", 8001), 8001, 1},
		"one step":                           {long + " 1\n", 8000, 0},
		"one step, no end":                   {long + " 12", 8000, 0},
		"one step too long":                  {long + " 12\n", 8001, 1},
		"a step and a comment":               {padded("sync\n", 8000), 8000, 0},
		"a step and a comment less":          {padded("sync\n", 7999), 7999, 0},
		"a step and a comment too long":      {padded("sync\n", 8001), 8001, 1},
		"a wrong line":                       {padded("sync\nstop\n", 8000), 8000, 2},
		"a wrong line, too long":             {padded("sync\nstop\n", 8001), 8001, 1},
		"a wrong line at the end":            {strings.Repeat("\n", 7999) + "x", 8000, 8000},
		"a wrong line past the end":          {strings.Repeat("\n", 8000) + "x", 8001, 1},
		"one byte 10 past the end":           {padded("sync\n", 8000) + "\n", 8001, 1},
		"one byte 10 at the end":             {padded("sync\n", 7999) + "\n", 8000, 0},
		"both limits":                        {padded(most, 8000), 8000, 0},
		"both limits, lines ahead":           {padded("", 4999) + "\n" + most, 8000, 0},
		"MaxSteps, too long":                 {padded(most, 8001), 8001, 1},
		"one step more, just so long":        {padded(most+"sync\n", 8000), 8000, 301},
		"one step more at the end":           {padded(most, 7995) + "\nsync", 8000, 302},
		"one step more, too long":            {padded(most+"sync\n", 8001), 8001, 1},
		"a wrong line behind, just so long":  {padded(most, 7998) + "\n ", 8000, 302},
		"a wrong line behind, too long":      {padded(most, 7999) + "\n ", 8001, 1},
		"many steps, just so long":           {strings.Repeat("sync\n", 1600), 8000, 301},
		"many steps, too long":               {strings.Repeat("sync\n", 1600) + "\n", 8001, 1},
		"far too long":                       {strings.Repeat("sync\n", 100000), 500000, 1},
		"far too long, wrong at once":        {strings.Repeat("\xff", 100000), 100000, 1},
		"bytes that are no UTF-8":            {strings.Repeat("\xff", 8000), 8000, 1},
		"a comment of no UTF-8":              {"#" + strings.Repeat("\xff", 7999), 8000, 0},
		"a comment of long runes":            {"#€" + strings.Repeat("€", 2665) + "#", 8000, 0},
		"a comment of long runes, too long":  {"#€" + strings.Repeat("€", 2665) + "##", 8001, 1},
		"fewer runes than bytes, and a step": {"#" + strings.Repeat("é", 3997) + "\nsync", 8000, 0},
		"fewer runes, but too many bytes":    {"#" + strings.Repeat("é", 3997) + "\nsync\n", 8001, 1},
	} {
		if len(c.text) != c.size {
			t.Errorf("%s: the test's text has %d bytes", name, len(c.text))
		}
		if line := r.lookScript(t, name, c.text); line != c.line {
			t.Errorf("%s: line %d; want %d", name, line, c.line)
		}
		if l, line := impl.ReadScript(c.text); line != c.line || line > 0 && len(l) > 0 {
			t.Errorf("%s: %d steps, line %d; want %d", name, len(l), line, c.line)
		}
	}
}

// P13: scripts of lines put together by chance.
func TestP13ReadScriptByChance(t *testing.T) {
	d, r := dice(134), newStepReader()
	all, seen := rightSteps(), map[bool]int{}
	for range 4000 {
		var text strings.Builder
		for range d.below(30) {
			switch s := rawStep(all[d.below(40)]); d.below(24) {
			case 0:
				text.WriteString(s + "\r\n")
			case 1:
				text.WriteString(s + " \n")
			case 2:
				text.WriteString("\n\n")
			case 3:
				text.WriteString("#" + s + "\n")
			case 4:
				text.WriteString(s)
			default:
				text.WriteString(s + "\n")
			}
		}
		script := text.String()
		if cut := d.below(3); cut == 0 && len(script) > 0 {
			script = script[:d.below(len(script))]
		}
		seen[r.lookScript(t, "by chance", script) == 0]++
	}
	if min(seen[true], seen[false]) < 500 {
		t.Errorf("%v are right: the test looks at one side only", seen)
	}
}

// P13: what ReadScript answers is new memory, each list by itself.
func TestP13ReadScriptNewMemory(t *testing.T) {
	text := "crash 1 2\ncrash 1 2\nsync\ncrash 3"
	want := steps(crashing(1, 2), crashing(1, 2), syncing, crashing(3))
	a, _ := impl.ReadScript(text)
	b, _ := impl.ReadScript(text)
	blotList(b[0].Keep, -3)
	if !sameSteps(b[1:], want[1:]) {
		t.Errorf("two steps share memory: %+v", b)
	}
	blotList(b, crashing(-3))
	if !sameSteps(a, want) {
		t.Errorf("two answers share memory: %+v", a)
	}
}

// P12: a script that is read is played as its steps are.
func TestP12ScriptsPlayed(t *testing.T) {
	l, line := impl.ReadScript("# a hub\nstart\ntake deposit 1000\ntake open 1 200 300\nsync\ntake tick\ntake tick\ncrash 128 127\nstart\nturn 50 60 10 0 100\nsync\n")
	w, _ := impl.WorldNew(9)
	w = impl.Play(w, l)
	es := saidAll("deposit 1000", "open 1 200 300", "tick", "price 1 0 10")
	if line != 0 || len(l) != 10 || !slices.Equal(w.Took, es) || !slices.Equal(w.Sent, es) || w.Hub.Book.Chans[0].Ppm != 10 || len(w.Hub.Wait) > 0 {
		t.Errorf("line %d: %+v", line, shortly(w))
	}
	d := dice(135)
	for i := range 60 {
		m := moods()[i%len(moods())]
		w, _ := impl.WorldNew(4 + d.below(30))
		var text strings.Builder
		var l []impl.Step
		for _, s := range d.aPlay(m, w, 10+d.below(30)) {
			if said := impl.StepText(s); said != "" {
				l = append(l, s)
				text.WriteString(said + "\n")
			}
		}
		read, line := impl.ReadScript(text.String())
		if line != 0 || !sameSteps(read, l) || !sameWorld(impl.Play(w, read), impl.Play(w, l)) {
			t.Fatalf("the script %q is read as %+v, %d; want %+v", text.String(), read, line, l)
		}
	}
}
