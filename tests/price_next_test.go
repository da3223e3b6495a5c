package tests

import (
	"testing"

	"loop.example/g00400/impl"
)

func lookNext(t *testing.T, name string, c impl.Chan, r impl.Rule, want int) {
	t.Helper()
	if got := impl.NextPpm(c, r); got != want || wantNextPpm(c, r) != want {
		t.Errorf("%s: NextPpm of %+v by %+v = %d, the tests reckon %d; want %d", name, c, r, got, wantNextPpm(c, r), want)
	}
}

func TestP13NextPpm(t *testing.T) {
	plain := rule(30, 70, 10, 5, 100)
	for _, c := range []struct {
		name                   string
		size, ours, ppm, wants int
	}{
		{"far too little", 1000, 0, 50, 60}, {"one below the first", 1000, 299, 50, 60}, {"at the first", 1000, 300, 50, 50}, {"one above the first", 1000, 301, 50, 50},
		{"in the midst", 1000, 500, 50, 50},
		{"one below the second", 1000, 699, 50, 50}, {"at the second", 1000, 700, 50, 50}, {"one above the second", 1000, 701, 50, 40}, {"all of it", 1000, 1000, 50, 40},
		// The ends are 33.3 and 77.7, cut down 33 and 77.
		{"below a cut end", 111, 32, 50, 60}, {"at a cut end", 111, 33, 50, 50}, {"at the other cut end", 111, 77, 50, 50}, {"above the other cut end", 111, 78, 50, 40},
		{"Size 0", 0, 0, 50, 50}, {"Size 0, something there", 0, 1, 50, 40}, {"Size 1, nothing", 1, 0, 50, 50}, {"Size 1, all", 1, 1, 50, 40},
		{"more than the Size", 1000, 1001, 50, 40}, {"far more than the Size", 1000, top, 50, 40},
		{"the greatest Size, nothing", top, 0, 50, 60}, {"the greatest Size, all", top, top, 50, 40}, {"the greatest Size, half", top, top / 2, 50, 50},
		{"the greatest Size, below the first", top, 337769972052786, 50, 60}, {"the greatest Size, at the first", top, 337769972052787, 50, 50},
		{"the greatest Size, at the second", top, 788129934789836, 50, 50}, {"the greatest Size, above the second", top, 788129934789837, 50, 40},
	} {
		lookNext(t, c.name, charging(c.size, c.ours, c.ppm), plain, c.wants)
	}
}

// P13: Clamp comes last, also where nothing is scarce or plenty.
func TestP13NextPpmClamped(t *testing.T) {
	const scarce, even, plenty = 0, 50, 100
	for _, c := range []struct {
		name                          string
		ours, ppm, step, lo, hi, want int
	}{
		{"up to just Max", scarce, 90, 10, 5, 100, 100}, {"up to one below", scarce, 89, 10, 5, 100, 99}, {"up past Max by one", scarce, 91, 10, 5, 100, 100}, {"up from Max", scarce, 100, 10, 5, 100, 100},
		{"up from above Max", scarce, 300, 10, 5, 100, 100}, {"up from below Min, not so far", scarce, 0, 3, 5, 100, 5}, {"up from below Min to it", scarce, 0, 5, 5, 100, 5}, {"up from below Min past it", scarce, 0, 6, 5, 100, 6},
		{"down to just Min", plenty, 15, 10, 5, 100, 5}, {"down to one above", plenty, 16, 10, 5, 100, 6}, {"down past Min by one", plenty, 14, 10, 5, 100, 5}, {"down from Min", plenty, 5, 10, 5, 100, 5},
		{"down from below Min", plenty, 2, 10, 5, 100, 5}, {"down below 0", plenty, 3, 10, 0, 100, 0}, {"down to 0", plenty, 10, 10, 0, 100, 0}, {"down from 0", plenty, 0, 1, 0, 100, 0},
		{"down from above Max, not so far", plenty, 200, 10, 5, 100, 100}, {"down from above Max to it", plenty, 110, 10, 5, 100, 100}, {"down from above Max past it", plenty, 109, 10, 5, 100, 99},
		{"even below Min", even, 4, 10, 5, 100, 5}, {"even at Min", even, 5, 10, 5, 100, 5}, {"even at Max", even, 100, 10, 5, 100, 100}, {"even above Max", even, 101, 10, 5, 100, 100},
		{"even at 0", even, 0, 10, 5, 100, 5}, {"even at Million", even, 1000000, 10, 5, 100, 100},
		{"up to Million", scarce, 999990, 10, 0, 1000000, 1000000}, {"up past Million", scarce, 999991, 10, 0, 1000000, 1000000}, {"up from Million", scarce, 1000000, 1, 0, 1000000, 1000000},
		{"up by Million from 0", scarce, 0, 1000000, 0, 1000000, 1000000}, {"up by Million from Million", scarce, 1000000, 1000000, 0, 1000000, 1000000},
		{"up by Million, Max near", scarce, 50, 1000000, 5, 100, 100},
		{"down by Million from Million", plenty, 1000000, 1000000, 0, 1000000, 0}, {"down by Million from 0", plenty, 0, 1000000, 0, 1000000, 0},
		{"down by Million, Min above", plenty, 1000000, 1000000, 5, 1000000, 5},
		{"up by 1", scarce, 50, 1, 5, 100, 51}, {"down by 1", plenty, 50, 1, 5, 100, 49},
		{"up by 0", scarce, 50, 0, 5, 100, 50}, {"down by 0", plenty, 50, 0, 5, 100, 50}, {"up by 0 from below", scarce, 4, 0, 5, 100, 5}, {"down by 0 from above", plenty, 101, 0, 5, 100, 100},
		{"one fee, up", scarce, 50, 10, 7, 7, 7}, {"one fee, down", plenty, 50, 10, 7, 7, 7}, {"one fee, even", even, 3, 10, 7, 7, 7},
		{"0 alone", scarce, 50, 10, 0, 0, 0}, {"Million alone", plenty, 50, 10, 1000000, 1000000, 1000000},
	} {
		lookNext(t, c.name, charging(100, c.ours, c.ppm), rule(30, 70, c.step, c.lo, c.hi), c.want)
	}
}

// P13: bands at their ends.
func TestP13NextPpmBands(t *testing.T) {
	for _, c := range []struct{ size, ours, lo, hi, want int }{
		// Nothing is scarce where Lo is 0, nothing in the Size is plenty where Hi is 100.
		{100, 0, 0, 70, 50}, {100, 71, 0, 70, 40}, {100, 100, 30, 100, 50}, {100, 29, 30, 100, 60}, {100, 0, 0, 100, 50}, {100, 100, 0, 100, 50}, {100, 101, 0, 100, 40},
		{100, 0, 0, 0, 50}, {100, 1, 0, 0, 40}, {100, 99, 100, 100, 60}, {100, 100, 100, 100, 50}, {100, 101, 100, 100, 40},
		{100, 49, 50, 50, 60}, {100, 50, 50, 50, 50}, {100, 51, 50, 50, 40}, {100, 0, 1, 1, 60}, {100, 1, 1, 1, 50}, {100, 98, 99, 99, 60}, {100, 100, 99, 99, 40},
		{1, 0, 100, 100, 60}, {1, 0, 99, 99, 50}, {1, 1, 99, 99, 40}, {0, 0, 100, 100, 50}, {0, 0, 0, 0, 50},
		{top, 0, 0, 0, 50}, {top, 1, 0, 0, 40}, {top, top - 1, 100, 100, 60}, {top, top, 100, 100, 50},
	} {
		lookNext(t, "bands", charging(c.size, c.ours, 50), rule(c.lo, c.hi, 10, 5, 100), c.want)
	}
}

func TestP13NextPpmNot(t *testing.T) {
	plain := rule(30, 70, 10, 5, 100)
	for name, c := range map[string]impl.Chan{
		"Size -1":                  charging(-1, 0, 50),
		"Size MaxAmt and 1":        charging(top+1, 0, 50),
		"Size the least int":       charging(leastInt, 0, 50),
		"Size the greatest int":    charging(greatestInt, 500, 50),
		"a Size that wraps":        charging(1<<62, 500, 50),
		"Local -1":                 charging(1000, -1, 50),
		"Local MaxAmt and 1":       charging(1000, top+1, 50),
		"Local past the Size":      charging(top, top+1, 50),
		"Local the least int":      charging(1000, leastInt, 50),
		"Local the greatest int":   charging(1000, greatestInt, 50),
		"Ppm -1":                   charging(1000, 500, -1),
		"Ppm -1, scarce":           charging(1000, 0, -1),
		"Ppm Million and 1":        charging(1000, 500, 1000001),
		"Ppm Million and 1, much":  charging(1000, 1000, 1000001),
		"Ppm the least int":        charging(1000, 1000, leastInt),
		"Ppm the greatest int":     charging(1000, 0, greatestInt),
		"Ppm that is cut to one":   charging(1000, 0, 1<<32+50),
		"Size and Local -1":        charging(-1, -1, 50),
		"Size and Local too great": charging(top+1, top+1, 50),
		"all of it":                charging(-1, -1, -1),
	} {
		lookNext(t, name, c, plain, -1)
		lookNext(t, name, c, rule(0, 100, 0, 0, 1000000), -1)
		lookNext(t, name, c, impl.Rule{}, -1)
	}
	for name, r := range wrongRules() {
		lookNext(t, name, charging(1000, 500, 50), r, -1)
	}
}

// P13: only Size, Local and Ppm of a channel count.
func TestP13NextPpmOfThreeAlone(t *testing.T) {
	for _, c := range []impl.Chan{
		{},
		{Id: 1, Remote: 600, Base: 3, Score: 5},
		{Id: -1, Remote: -1, Base: -1, Score: 101},
		{Id: 100, Remote: top + 1, Base: top + 1, Score: -101},
		{Id: greatestInt, Remote: leastInt, Base: leastInt, Score: greatestInt},
	} {
		c.Size, c.Ppm = 1000, 50
		for ours, want := range map[int]int{299: 60, 300: 50, 700: 50, 701: 40, -1: -1} {
			c.Local = ours
			lookNext(t, "three alone", c, rule(30, 70, 10, 5, 100), want)
		}
	}
}

// P13: channels and rules at all edges at once. What comes is a fee of the rule, or -1.
func TestP13NextPpmAtEdges(t *testing.T) {
	sizes := []int{-1, 0, 1, 100, 111, top, top + 1}
	fees := []int{-1, 0, 1, 9, 10, 11, 999999, 1000000, 1000001}
	for _, size := range sizes {
		for _, band := range [][2]int{{0, 0}, {0, 100}, {100, 100}, {30, 70}, {50, 50}, {-1, 0}, {30, 29}, {100, 101}} {
			first, second := wantEnds(size, band[0], band[1])
			for _, ours := range []int{-1, 0, first - 1, first, first + 1, second - 1, second, second + 1, size - 1, size, size + 1, top, top + 1} {
				for _, ppm := range fees {
					lookNextFees(t, charging(size, ours, ppm), band, fees)
				}
			}
			if t.Failed() {
				return
			}
		}
	}
}

func lookNextFees(t *testing.T, c impl.Chan, band [2]int, fees []int) {
	t.Helper()
	for _, step := range fees {
		for _, least := range fees {
			for _, most := range []int{least - 1, least, least + 10, 1000000, 1000001} {
				r := rule(band[0], band[1], step, least, most)
				got := impl.NextPpm(c, r)
				if want := wantNextPpm(c, r); got != want {
					t.Fatalf("NextPpm of %+v by %+v = %d; want %d", c, r, got, want)
				}
				if impl.RuleOk(r) && got != -1 && (got < least || got > most) {
					t.Fatalf("NextPpm of %+v by %+v = %d: past its ends", c, r, got)
				}
			}
		}
	}
}

// P13: every small channel by every small rule.
func TestP13NextPpmOfSmallOnes(t *testing.T) {
	for size := range 8 {
		for ours := range size + 2 {
			for lo := 0; lo <= 100; lo += 10 {
				for hi := lo; hi <= 100; hi += 15 {
					for n := range 5 * 4 * 5 * 6 {
						least := n / 20 % 5
						c, r := charging(size, ours, n%5), rule(lo, hi, n/5%4, least, least+n/100)
						if got, want := impl.NextPpm(c, r), wantNextPpm(c, r); got != want {
							t.Fatalf("NextPpm of %+v by %+v = %d; want %d", c, r, got, want)
						}
					}
				}
			}
		}
	}
}
