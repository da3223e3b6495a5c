package tests

import (
	"testing"

	"loop.example/g00400/impl"
)

func TestP13JamConstants(t *testing.T) {
	if impl.MaxSlots != 10 || impl.Good != 20 || impl.Best != 100 {
		t.Errorf("MaxSlots %d, Good %d, Best %d", impl.MaxSlots, impl.Good, impl.Best)
	}
}

// P6: of every score up is no less, down no more, and what comes is a score again.
func TestP6ScoresKeepTheirEnds(t *testing.T) {
	for n := -impl.Best; n <= impl.Best; n++ {
		up, down, fade := impl.ScoreUp(n), impl.ScoreDown(n), impl.ScoreFade(n)
		if !impl.ScoreOk(n) || !impl.ScoreOk(up) || !impl.ScoreOk(down) || !impl.ScoreOk(fade) {
			t.Errorf("of %d: up %d, down %d, fade %d: one is no score", n, up, down, fade)
		}
		if up < n || down > n {
			t.Errorf("of %d: up %d, down %d", n, up, down)
		}
		if up == n && n != impl.Best || down == n && n != -impl.Best {
			t.Errorf("%d stays where it is ahead of its end: up %d, down %d", n, up, down)
		}
	}
}

// P6: going up or down often enough comes to the end, and stays there.
func TestP6ScoresComeToTheirEnds(t *testing.T) {
	for n := -impl.Best; n <= impl.Best; n++ {
		high, low := n, n
		for range 20 {
			high = impl.ScoreUp(high)
		}
		for range 14 {
			low = impl.ScoreDown(low)
		}
		if high != impl.Best || impl.ScoreUp(high) != impl.Best {
			t.Errorf("from %d up 20 times: %d, then %d", n, high, impl.ScoreUp(high))
		}
		if low != -impl.Best || impl.ScoreDown(low) != -impl.Best {
			t.Errorf("from %d down 14 times: %d, then %d", n, low, impl.ScoreDown(low))
		}
	}
}

// P6: each fading is one nearer to 0; as many as a score is far from 0 bring it there, no fewer, and it stays.
func TestP6FadingComesToRest(t *testing.T) {
	for n := -impl.Best; n <= impl.Best; n++ {
		at := n
		for left := max(n, -n); left > 0; left-- {
			if max(at, -at) != left || (at > 0) != (n > 0) {
				t.Fatalf("from %d: at %d with %d steps left", n, at, left)
			}
			at = impl.ScoreFade(at)
		}
		for range 3 {
			if at != 0 {
				t.Errorf("from %d faded to %d", n, at)
			}
			at = impl.ScoreFade(at)
		}
	}
}

// P6: whatever goes on with a score, it stays one.
func TestP6ScoresByChance(t *testing.T) {
	c := dice(6)
	moves := []func(int) int{impl.ScoreUp, impl.ScoreDown, impl.ScoreFade}
	n, least, greatest := 0, 0, 0
	for range 100000 {
		move := moves[c.below(3)]
		// Some luck at a time, so that both ends are come to.
		for range 1 + c.below(12) {
			n = move(n)
		}
		least, greatest = min(least, n), max(greatest, n)
		if n < -100 || n > 100 {
			t.Fatalf("the score is %d", n)
		}
	}
	if least != -100 || greatest != 100 {
		t.Errorf("scores from %d to %d came: the test looks at too few", least, greatest)
	}
}

func TestP13ScoreOk(t *testing.T) {
	for _, n := range []int{-100, -99, -20, -1, 0, 1, 19, 20, 99, 100} {
		if !impl.ScoreOk(n) {
			t.Errorf("ScoreOk(%d) is false", n)
		}
	}
	for _, n := range []int{leastInt, leastInt + 1, -top, -1000, -102, -101, 101, 102, 1000, top, 1 << 32, 1<<32 + 5, -1 << 32, 256, greatestInt - 1, greatestInt} {
		if impl.ScoreOk(n) {
			t.Errorf("ScoreOk(%d) is true", n)
		}
	}
}

func TestP13ScoreMoves(t *testing.T) {
	for _, c := range []struct{ n, up, down, fade int }{
		{-100, -90, -100, -99}, {-99, -89, -100, -98}, {-86, -76, -100, -85}, {-85, -75, -100, -84}, {-84, -74, -99, -83},
		{-50, -40, -65, -49}, {-11, -1, -26, -10}, {-10, 0, -25, -9}, {-9, 1, -24, -8}, {-2, 8, -17, -1}, {-1, 9, -16, 0},
		{0, 10, -15, 0},
		{1, 11, -14, 0}, {2, 12, -13, 1}, {14, 24, -1, 13}, {15, 25, 0, 14}, {16, 26, 1, 15}, {19, 29, 4, 18}, {20, 30, 5, 19},
		{50, 60, 35, 49}, {89, 99, 74, 88}, {90, 100, 75, 89}, {91, 100, 76, 90}, {99, 100, 84, 98}, {100, 100, 85, 99},
		{-101, 0, 0, 0}, {101, 0, 0, 0}, {-110, 0, 0, 0}, {115, 0, 0, 0}, {-116, 0, 0, 0}, {116, 0, 0, 0},
		{256, 0, 0, 0}, {-256, 0, 0, 0}, {1 << 32, 0, 0, 0}, {top, 0, 0, 0}, {-top, 0, 0, 0},
		{leastInt, 0, 0, 0}, {leastInt + 14, 0, 0, 0}, {greatestInt, 0, 0, 0}, {greatestInt - 9, 0, 0, 0},
	} {
		if up, down, fade := impl.ScoreUp(c.n), impl.ScoreDown(c.n), impl.ScoreFade(c.n); up != c.up || down != c.down || fade != c.fade {
			t.Errorf("of %d: up %d, down %d, fade %d; want %d, %d, %d", c.n, up, down, fade, c.up, c.down, c.fade)
		}
	}
}

// P13: every score, and all edges of what is none.
func TestP13EveryScore(t *testing.T) {
	numbers := scoreEdges()
	for n := -300; n <= 300; n++ {
		numbers = append(numbers, n)
	}
	for _, n := range numbers {
		right := n >= -100 && n <= 100
		up, down, fade := 0, 0, 0
		if right {
			up, down = min(n+10, 100), max(n-15, -100)
		}
		if right && n > 0 {
			fade = n - 1
		}
		if right && n < 0 {
			fade = n + 1
		}
		if got := impl.ScoreOk(n); got != right {
			t.Errorf("ScoreOk(%d) = %v", n, got)
		}
		if got := impl.ScoreUp(n); got != up {
			t.Errorf("ScoreUp(%d) = %d; want %d", n, got, up)
		}
		if got := impl.ScoreDown(n); got != down {
			t.Errorf("ScoreDown(%d) = %d; want %d", n, got, down)
		}
		if got := impl.ScoreFade(n); got != fade {
			t.Errorf("ScoreFade(%d) = %d; want %d", n, got, fade)
		}
	}
}

func TestP13Standing(t *testing.T) {
	for _, n := range []int{20, 21, 50, 99, 100} {
		if !impl.Standing(n, true) || impl.Standing(n, false) {
			t.Errorf("Standing of %d: %v endorsed, %v not", n, impl.Standing(n, true), impl.Standing(n, false))
		}
	}
	for _, n := range []int{leastInt, -101, -100, -99, -21, -20, -1, 0, 1, 18, 19, 101, 102, 120, 1000, top, greatestInt} {
		if impl.Standing(n, true) || impl.Standing(n, false) {
			t.Errorf("Standing of %d: %v endorsed, %v not", n, impl.Standing(n, true), impl.Standing(n, false))
		}
	}
	for n := -300; n <= 300; n++ {
		if got := impl.Standing(n, true); got != (n >= 20 && n <= 100) {
			t.Errorf("Standing(%d, true) = %v", n, got)
		}
		if impl.Standing(n, false) {
			t.Errorf("Standing(%d, false) is true", n)
		}
	}
}
