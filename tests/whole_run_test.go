package tests

import (
	"slices"
	"strings"
	"testing"

	"loop.example/g00400/impl"
)

// aLife is a script with something of everything; behind it the hub is up, and has earned 4.
const aLife = "# a hub\nstart\ntake deposit 1000\ntake open 1 200 300\n\ntake open 2 400 100\ntake price 2 1 50000\nsync\n" +
	"take admit 7 1 2 101 no\ntake launch 8 2 1 30 3\ncrash 128 128\nstart\ntake fulfill 7\ntake fulfill 7\ntake arrive 8\nturn 60 61 10 5 60000\ntake tick\n"

// P12: a run is Play of the script on a new world, whatever the number of cells.
func TestP12RunIsPlay(t *testing.T) {
	for cells := -3; cells <= 603; cells++ {
		if 60 < cells && cells < 590 && cells%10 > 0 {
			continue
		}
		w, line := lookRun(t, cells, "start\ntake deposit 5\nsync\ntake tick\ntake tick\ncrash 128 127\nstart\ntake fail 5")
		if in := cells >= 1 && cells <= 600; in && line != 0 || !in && (line != -1 || !sameWorld(w, impl.World{})) {
			t.Errorf("%d cells: line %d", cells, line)
		}
		if cells > 5 && cells <= 600 && (len(w.Took) != 2 || len(w.Sent) != 2 || !slices.Equal(w.Codes, codes(0, 0, 0, 15))) {
			t.Errorf("%d cells: %+v", cells, shortly(w))
		}
	}
	for _, cells := range []int{1, 2, 3, 7, 8, 9, 10, 11, 12, 13, 14, 20, 599, 600} {
		lookRun(t, cells, aLife)
	}
}

// P12: runs by chance, right ones and wrong ones, as the tests reckon them step by step.
func TestP12RunReckoned(t *testing.T) {
	d, r, seen := dice(142), newStepReader(), map[string]int{}
	for i := range 300 {
		cells, text, _ := d.aScript(moods()[i%len(moods())], 40)
		if d.below(15) == 0 {
			cells = []int{0, -1, 601}[d.below(3)]
		}
		if d.below(5) == 0 {
			at := d.below(len(text) + 1)
			text = text[:at] + []string{"x", "\n", " ", "#", "\n\n", "\r"}[d.below(6)] + text[at:]
		}
		want, line := wantRun(r, cells, text)
		got, n := impl.Run(cells, text)
		if !sameWorld(got, want) || n != line {
			t.Fatalf("Run(%d, %q) = %+v, %d; want %+v, %d", cells, text, shortly(got), n, shortly(want), line)
		}
		lookRun(t, cells, text)
		if line == 0 && !lookWhole(t, "a run", got) {
			t.Fatalf("Run(%d, %q) isn't legal", cells, text)
		}
		seen[impl.NumText(min(line, 1))]++
	}
	if min(seen["-1"], seen["0"], seen["1"]) < 5 {
		t.Errorf("%v: the test looks at too few", seen)
	}
}

// P12: by the texts of the steps a run does just these steps, in their order, with lines between that say nothing.
func TestP12RunDoesTheSteps(t *testing.T) {
	d := dice(143)
	for i := range 120 {
		cells, text, told := d.aScript(moods()[i%len(moods())], 50)
		w, _ := impl.WorldNew(cells)
		for _, s := range told {
			w = impl.Do(w, s)
		}
		for _, script := range []string{text, strings.TrimSuffix(text, "\n"), "# x\n\n" + text + "\n#", strings.ReplaceAll(text, "\n", "\n\n# sync\n")} {
			if got, line := impl.Run(cells, script); line != 0 || !sameWorld(got, w) {
				t.Fatalf("Run(%d, %q) = %+v, %d; want %+v", cells, script, shortly(got), line, shortly(w))
			}
		}
	}
}

// P13: cells at all edges, with a text that is right and such that aren't: -1 goes ahead of every line.
func TestP13RunCells(t *testing.T) {
	texts := map[string]int{"": 0, "start\ntake tick": 0, "stop": 1, "start\nstop\n": 2, "\n\n \n": 3, padded("sync\n", 8000): 0, padded("sync\n", 8001): 1, strings.Repeat("sync\n", 301): 301, "\xff": 1}
	for text, want := range texts {
		for _, cells := range []int{leastInt, -600, -1, 0, 601, 602, 1200, 1 << 32, 1<<32 + 1, 1<<32 + 600, greatestInt} {
			if w, line := lookRun(t, cells, text); line != -1 || !sameWorld(w, impl.World{}) {
				t.Errorf("Run(%d, %.80q) = %+v, %d", cells, text, shortly(w), line)
			}
		}
		for _, cells := range []int{1, 2, 3, 599, 600} {
			w, line := lookRun(t, cells, text)
			if line != want || line != 0 && !sameWorld(w, impl.World{}) || line == 0 && !impl.Legal(w) {
				t.Errorf("Run(%d, %.80q) = %+v, %d; want line %d", cells, text, shortly(w), line, want)
			}
		}
	}
}

// P13: texts told out, and the line that is told where one is wrong.
func TestP13RunLines(t *testing.T) {
	for text, want := range map[string]int{
		"":                      0,
		"\n":                    0,
		"#":                     0,
		"\n\n# nothing\n":       0,
		"start":                 0,
		"start\n":               0,
		"start\ntake tick":      0,
		"start\nstop":           2,
		"start\nstop\n":         2,
		"stop\nstart\n":         1,
		"start\n\n#\nstop\n":    4,
		"start\nstop\ntake x":   2,
		"start\r\n":             1,
		"start\nsync\r":         2,
		" start":                1,
		"start\ntake tick ":     2,
		"start\ntake deposit 0": 2,
		"start\n ":              2,
		"take tick\ncrash\nup":  3,
	} {
		w, line := lookRun(t, 5, text)
		if line != want || line > 0 && !sameWorld(w, impl.World{}) {
			t.Errorf("Run(5, %q) = %+v, %d; want %d", text, shortly(w), line, want)
		}
		if up := strings.HasPrefix(text, "start"); line == 0 && w.Up != up {
			t.Errorf("Run(5, %q): up is %v", text, w.Up)
		}
	}
}

// P13: a line that isn't a step's at each place of a script, ended and not ended.
func TestP13RunWrongLine(t *testing.T) {
	lines := strings.Split(strings.TrimSuffix(aLife, "\n"), "\n")
	for at := range len(lines) + 1 {
		for _, bad := range []string{"stop", " ", "sync ", "take", "\xff", "crash -1"} {
			for _, end := range []string{"", "\n", "\nstop\n"} {
				text := strings.Join(slices.Insert(slices.Clone(lines), at, bad), "\n") + end
				if w, line := impl.Run(20, text); line != at+1 || !sameWorld(w, impl.World{}) {
					t.Errorf("Run(20, %q) = %+v, %d; want %d", text, shortly(w), line, at+1)
				}
			}
		}
	}
}

// P13: MaxSteps steps and one more, and MaxText bytes and one more.
func TestP13RunLimits(t *testing.T) {
	most := "start\n" + strings.Repeat("take tick\n", 299)
	for name, c := range map[string]struct {
		text string
		line int
		took int
	}{
		"MaxSteps":               {most, 0, 299},
		"MaxSteps, no end":       {most[:len(most)-1], 0, 299},
		"one more":               {most + "sync\n", 301, 0},
		"one more, no end":       {most + "take tick", 301, 0},
		"MaxText":                {padded(most, 8000), 0, 299},
		"MaxText and one more":   {padded(most, 8001), 1, 0},
		"one more at the end":    {padded(most, 7995) + "\nsync", 302, 0},
		"a wrong line at once":   {"x\n" + most, 1, 0},
		"a wrong line at last":   {most[:len(most)-10] + "x\n", 300, 0},
		"MaxText, not a step":    {strings.Repeat("\n", 7999) + "x", 8000, 0},
		"far more than MaxText":  {strings.Repeat("sync\n", 100000), 1, 0},
		"far more than MaxSteps": {strings.Repeat("sync\n", 1600), 301, 0},
	} {
		w, line := impl.Run(400, c.text)
		if line != c.line || len(w.Took) != c.took || line > 0 && !sameWorld(w, impl.World{}) || line == 0 && !impl.Legal(w) {
			t.Errorf("%s: %+v, %d; want line %d", name, shortly(w), line, c.line)
		}
	}
}

// P13: runs told out, and what is reported of them, up and down.
func TestP13RunToldOut(t *testing.T) {
	money := "\nwallet 400\nchan 1 338 162 0 5 10\nchan 2 266 234 1 50010 0\nwallet 400\nequity -1000\nincome -7\nrebal 3\nlocal1 338\nlocal2 266\n"
	older := "\nwallet 400\nchan 1 200 162 0 0 0\nchan 2 266 100 1 50000 0\nhtlc 7 1 2 108 101\ncircle 8 2 1 30 3\nwallet 400\nequity -1000\nlocal1 200\nlocal2 266\nout2 134\n"
	for text, c := range map[string]struct {
		report string
		earned int
	}{
		"":                                      {"down 0 0\n", 0},
		"start":                                 {"up 0 0\nwallet 0\n", 0},
		"start\ntake tick\n":                    {"up 1 0\nwallet 0\n", 0},
		"start\ntake tick\nsync\ntake tick":     {"up 2 1\nwallet 0\n", 0},
		"start\ntake deposit 5":                 {"up 1 0\nwallet 5\nwallet 5\nequity -5\n", 0},
		aLife:                                   {"up 11 6" + money, -4},
		aLife + "crash":                         {"down 11 6\n", 0},
		aLife + "crash\nstart":                  {"up 6 6" + older, 0},
		aLife + "sync\ncrash 1\nstart":          {"up 11 11" + money, -4},
		aLife + "crash 128 128\nstart":          {"up 8 8" + strings.NewReplacer(" 5 10\n", " 0 10\n", "50010", "50000").Replace(money), -4},
		aLife + "take close 1 8\ncrash 0\nsync": {"down 12 6\n", 0},
		aLife + "take close 1 8\n":              {"up 12 6\nwallet 730\nchan 2 266 234 1 50010 0\nwallet 730\nequity -1000\nincome -7\nrebal 3\nchain 8\nlocal2 266\n", -4},
	} {
		w, line := lookRun(t, 20, text)
		if got := impl.Report(w); line != 0 || got != c.report || impl.Earned(w) != c.earned || !lookWhole(t, "a life", w) {
			t.Errorf("%q: line %d, Earned %d, Report is\n%s\nwant\n%s", text, line, impl.Earned(w), got, c.report)
		}
	}
}

// P13: what Run answers is new memory, each list of it by itself.
func TestP13RunNewMemory(t *testing.T) {
	for _, text := range []string{"", aLife, aLife + "crash 128", aLife + "sync", aLife + "crash 128\nstart\n"} {
		want, _ := impl.Run(20, text)
		keep := copyOfWorld(want)
		w, _ := impl.Run(20, text)
		if !worldApart(w) {
			t.Errorf("%q: two lists of the answer share memory", text)
		}
		w, _ = impl.Run(20, text)
		blotWorld(w)
		if !sameWorld(want, keep) {
			t.Errorf("%q: two answers share memory", text)
		}
	}
}
