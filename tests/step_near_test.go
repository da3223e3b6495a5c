package tests

import (
	"slices"
	"strings"
	"testing"

	"loop.example/g00400/impl"
)

// P12: texts that are no step's, written out.
func TestP12TextsOfNoStep(t *testing.T) {
	for _, s := range []string{
		"", " ", "  ", "\n", "0", "1", "#", "# x", "#sync", "tick", "deposit 5", "begin", "stop", "up", "down", "wallet 5",
		"take", "take ", "take  ", "take nothing", "take take tick", "take sync", "take tick ", "take  tick", " take tick", "take tick 0", "take Tick", "Take tick", "TAKE tick", "take\ttick", "taketick", "take tick\n", "take tick\r", "take\ntick", "takes tick", "tak tick", "ake tick", "take tick tick", "take deposit", "take deposit 0", "take deposit -1", "take deposit 01", "take deposit +1", "take deposit 1125899906842625", "take admit 1 1 2 5", "take admit 1 1 1 5 no", "take price 1 1 1000001", "take tick yes", "take 8", "take yes", "take deposit 5\x00", "take\u00a0tick", "take deposit ５", "take tick\xff", "take \xfftick", "\xfftake tick", "take\xfftick",
		"sync ", " sync", "sync 1", "sync 0", "syncs", "syn", "Sync", "SYNC", "sync\n", "sync\r", "sync sync", "\tsync", "sync\x00", "ync", "sync #", "sync\xff", "sýnc", "sync  ", "synctake",
		"start ", " start", "start 1", "start 0", "starts", "star", "Start", "START", "start\n", "start\r", "start start", "start\x00", "tart", "start\xff", "start # x",
		"crash ", "crash  ", " crash", "crash -1", "crash +1", "crash 01", "crash 00", "crash -0", "crash 1 ", "crash  1", "crash 1  2", "crash 1 2 ", "crash 1\n", "crash 1\r", "crash1", "crash 1,2", "crash 1\t2", "crash 1125899906842625", "crash 1 1125899906842625", "crash 1125899906842625 1", "crash 9223372036854775807", "crash 9223372036854775808", "crash 18446744073709551617", "crash 1.0", "crash 1e3", "crash 0x1", "crash 1_0", "crash one", "crash ５", "crash 1 x", "crash x 1", "crash yes", "crash 1 -1", "crash 1 2 x 3", "Crash 1", "crashes 1", "crash\n", "crash\xff", "crash \xff", "crash 1 \xff", "crash 1\xff", "rash", "cras", "crashed", "crash crash", "crash 1 crash", "crash:1", "crash\x001", "crash 1 01 1", "crash \x80 1", "crash \xe2\x82", "crash 1 \xe2\x82",
		"turn", "turn ", "turn 1", "turn 1 2 3 4", "turn 1 2 3 4 5 6", "turn 1 2 3 4 5 ", "turn  1 2 3 4 5", "turn 1 2  3 4 5", " turn 1 2 3 4 5", "turn 1 2 3 4 5\n", "turn 1 2 3 4 5\r", "turn 1 2 3 5 4", "turn 2 1 3 4 5", "turn -1 2 3 4 5", "turn 1 101 3 4 5", "turn 101 101 3 4 5", "turn 1 2 -3 4 5", "turn 1 2 1000001 4 5", "turn 1 2 3 -4 5", "turn 1 2 3 4 1000001", "turn 1 2 3 1000001 1000001", "turn 01 2 3 4 5", "turn 1 2 3 4 05", "turn +1 2 3 4 5", "turn -0 2 3 4 5", "turn 1 2 3 4 x", "turn x 2 3 4 5", "turn 1 2 3 4 5 x", "turn 1 2 x 3 4 5", "turn 1 2 3 4 5 0", "turn 0 0 0 0", "turn 0 0 0 0 0 0", "turn 0 0 0 0 0 ", "turn x", "turn 0", "turn  ", "turn 1,2,3,4,5", "Turn 1 2 3 4 5", "turns 1 2 3 4 5", "turn1 2 3 4 5", "turn\t1 2 3 4 5", "turn 1 2 3 4\xff5", "turn 1 2 3 4 5\xff", "turn 1 2 3 4 \xff", "turn 1 2 3 4 5.0", "turn 9223372036854775808 2 3 4 5", "turn 18446744073709551617 2 3 4 5", "turn yes",
		"sync\nstart", "start\ncrash", "take tick\nsync", "\xff", "\xe2\x82\xac", "\xe2\x82", "\x80", "\x00", "ｓync", "crash １",
		strings.Repeat(" ", 100000), strings.Repeat("sync ", 20000), "crash " + strings.Repeat("0", 100000) + "1", "crash " + strings.Repeat("9", 100000), "crash" + strings.Repeat(" ", 100000), "turn" + strings.Repeat(" 1", 50000), "take " + strings.Repeat("tick ", 20000), "crash" + strings.Repeat(" 1", 50000) + " ", "crash" + strings.Repeat(" 1", 50000) + " x", strings.Repeat("\xff", 100000),
	} {
		noStep(t, "no step's", s)
	}
}

// P12: what goes wrong with the right text of a step.
func TestP12TextsNearSteps(t *testing.T) {
	for _, step := range rightSteps() {
		if len(step.Keep) > 12 {
			continue
		}
		s := rawStep(step)
		words := strings.Split(s, " ")
		noStep(t, "a blank ahead", " "+s)
		noStep(t, "a blank behind", s+" ")
		noStep(t, "a word behind", s+" x")
		noStep(t, "a word ahead", "1 "+s)
		noStep(t, "a sign behind", s+" -1")
		noStep(t, "twice", s+" "+s)
		noStep(t, "ended", s+"\n")
		noStep(t, "ended by two", s+"\r\n")
		noStep(t, "byte 13 behind", s+"\r")
		noStep(t, "byte 0 behind", s+"\x00")
		noStep(t, "bytes that are no UTF-8 behind", s+"\xff")
		noStep(t, "bytes that are no UTF-8 ahead", "\xff"+s)
		noStep(t, "great letters", strings.ToUpper(s))
		noStep(t, "a great letter", strings.ToUpper(s[:1])+s[1:])
		noStep(t, "the word cut", s[1:])
		noStep(t, "the word run on", words[0]+"s"+s[len(words[0]):])
		noStep(t, "the word's end cut", words[0][:len(words[0])-1]+s[len(words[0]):])
		noStep(t, "said to be nothing", "#"+s)
		if step.Kind != impl.StCrash {
			noStep(t, "a number too many", s+" 1")
			noStep(t, "a zero too many", s+" 0")
		}
		for i := 1; i < len(words); i++ {
			noStep(t, "two blanks", strings.Join(words[:i], " ")+"  "+strings.Join(words[i:], " "))
			noStep(t, "another blank", strings.Join(words[:i], " ")+"\t"+strings.Join(words[i:], " "))
			noStep(t, "a line's end between", strings.Join(words[:i], " ")+"\n"+strings.Join(words[i:], " "))
			if i == 1 || step.Kind == impl.StTurn {
				noStep(t, "no blank", strings.Join(words[:i], " ")+strings.Join(words[i:], " "))
			}
			if step.Kind != impl.StCrash {
				noStep(t, "a word too few", strings.Join(slices.Delete(slices.Clone(words), i, i+1), " "))
				noStep(t, "the end missing", strings.Join(words[:i], " "))
			}
		}
	}
}

// P12: at each place of a number one that NumText never writes, or none at all.
func TestP12StepsOfWrongNumbers(t *testing.T) {
	for _, step := range steps(crashing(5), crashing(128, 0, 7), turning(rule(30, 70, 10, 5, 100)), turning(impl.Rule{}), taking(said("launch 7 1 2 500 6"))) {
		words := strings.Split(rawStep(step), " ")
		for i := 1; i < len(words); i++ {
			for _, n := range []string{
				"", "-", "+", "-0", "+0", "00", "+" + words[i], "0" + words[i], "-" + words[i], words[i] + ".", words[i] + ".0", words[i] + "e0", "0x" + words[i], words[i] + "_0", words[i] + ",",
				"1125899906842625", "-1", "-1125899906842624", "9223372036854775807", "9223372036854775808", "-9223372036854775808", "18446744073709551616", "18446744073709551617", strings.Repeat("9", 400), strings.Repeat("1", 20),
				"x", "yes", "no", "nil", "１", "٣", "1\n", "1\r", "\x00", "\xff", "\xff1", "1\xff", "1\xe2\x82", "#", "#1",
			} {
				changed := slices.Clone(words)
				changed[i] = n
				noStep(t, "a wrong number", strings.Join(changed, " "))
			}
		}
	}
}

// P12: with any one byte put in, taken out or changed it is no step's text, or another step's whose text it is.
func TestP12StepTextChanged(t *testing.T) {
	r := newStepReader()
	right, wrong := 0, 0
	look := func(s string) {
		if r.look(t, s) {
			right++
		} else {
			wrong++
		}
	}
	for _, step := range rightSteps() {
		s := rawStep(step)
		if len(s) > 60 {
			continue
		}
		for at := range len(s) + 1 {
			for _, c := range " 0159-+#aekrtsy\n\r\x00" {
				look(s[:at] + string(c) + s[at:])
				if at < len(s) {
					look(s[:at] + string(c) + s[at+1:])
				}
			}
			look(s[:at] + "\xff" + s[at:])
			if at < len(s) {
				look(s[:at] + "\xff" + s[at+1:])
				look(s[:at] + s[at+1:])
				look(s[:at])
				look(s[at:])
			}
		}
	}
	if right < 1000 || wrong < 1000 {
		t.Errorf("%d right ones and %d wrong ones: the test looks at one side only", right, wrong)
	}
}

// P13: texts of words put together by chance are read as the step that has them or as none.
func TestP13TextStepByChance(t *testing.T) {
	words := []string{"take", "take", "take tick", "take deposit", "take admit", "take price", "sync", "crash", "crash", "start", "turn", "turn", "turn 0 100"}
	behind := []string{"1", "2", "3", "128", "100", "1000000", "0", "0", "1000001", topIs, "1125899906842625", "yes", "no", "", "01", "-1", "x", "tick"}
	r := newStepReader()
	d, right := dice(132), 0
	for range 100000 {
		text := []string{words[d.below(len(words))]}
		for range d.below(7) {
			text = append(text, behind[min(d.below(len(behind)), d.below(len(behind)))])
		}
		if r.look(t, strings.Join(text, " ")) {
			right++
		}
	}
	if right < 5000 || right > 95000 {
		t.Errorf("of 100000 made by chance %d are right: the test looks at one side only", right)
	}
}

// P13: what TextStep answers is new memory.
func TestP13TextStepNewMemory(t *testing.T) {
	a, _ := impl.TextStep("crash 1 2 3")
	b, _ := impl.TextStep("crash 1 2 3")
	blotList(b.Keep, -3)
	if !slices.Equal(a.Keep, []int{1, 2, 3}) {
		t.Errorf("two answers share memory: %v", a.Keep)
	}
}
