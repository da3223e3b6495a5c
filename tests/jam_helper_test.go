package tests

import (
	"testing"

	"loop.example/g00400/impl"
)

// A place is what Allow is asked, but for who asks.
type place struct {
	size, usedFew, usedAll, slotsFew, slotsAll, amt int
}

func (p place) allow(good bool) int {
	return impl.Allow(p.size, p.usedFew, p.usedAll, p.slotsFew, p.slotsAll, p.amt, good)
}

func (p place) right() bool {
	return isAmt(p.size) && isAmt(p.usedFew) && isAmt(p.usedAll) && isAmt(p.amt) &&
		p.slotsFew >= 0 && p.slotsAll >= 0 && p.usedFew <= p.usedAll && p.slotsFew <= p.slotsAll
}

// generalFree and allFree are the two halves of what the chapter asks of the general room; the second alone is what it asks of the kept one.
func (p place) generalFree() bool { return p.slotsFew < 5 && p.usedFew+p.amt <= p.size/2 }

func (p place) allFree() bool { return p.slotsAll < 10 && p.usedAll+p.amt <= p.size }

func (p place) wantAllow(good bool) int {
	switch {
	case !p.right():
		return 0
	case p.generalFree() && p.allFree():
		return 1
	case good && p.allFree():
		return 2
	}
	return 0
}

// scoreEdges are the numbers at which some function of scores changes its answer, and those beside them.
func scoreEdges() []int {
	return []int{
		leastInt, leastInt + 1, leastInt + 14, leastInt + 15, leastInt + 16, -top, -1000, -116, -115, -114, -102,
		-101, -100, -99, -86, -85, -84, -2, -1, 0, 1, 2, 18, 19, 20, 21, 89, 90, 91, 98, 99, 100, 101,
		102, 109, 110, 111, 1000, top, greatestInt - 11, greatestInt - 10, greatestInt - 9, greatestInt - 1, greatestInt,
	}
}

func slotEdges() []int {
	return []int{leastInt, -1, 0, 1, 4, 5, 6, 9, 10, 11, greatestInt}
}

// amtEdges are what a payment or some payments may use of a size, just up to its ends and past them.
func amtEdges(size int) []int {
	half := size / 2
	return []int{leastInt, -1, 0, 1, half - 1, half, half + 1, size - 1, size, size + 1, top, top + 1, greatestInt}
}

// eachPlace goes through all edges of all arguments at once.
func eachPlace(t *testing.T, look func(t *testing.T, p place)) {
	t.Helper()
	for _, size := range []int{leastInt, -1, 0, 1, 2, 7, 100, 101, top - 1, top, top + 1, greatestInt} {
		for _, usedFew := range amtEdges(size) {
			for _, usedAll := range amtEdges(size) {
				for _, amt := range amtEdges(size) {
					for _, slotsFew := range slotEdges() {
						for _, slotsAll := range slotEdges() {
							look(t, place{size, usedFew, usedAll, slotsFew, slotsAll, amt})
						}
					}
				}
			}
			if t.Failed() {
				return
			}
		}
	}
}

// eachSmallPlace goes through every way that a small channel may be used, right or not.
func eachSmallPlace(t *testing.T, look func(t *testing.T, p place)) {
	t.Helper()
	for size := -1; size <= 5; size++ {
		for usedFew := -1; usedFew <= 6; usedFew++ {
			for usedAll := -1; usedAll <= 6; usedAll++ {
				for amt := -1; amt <= 6; amt++ {
					for slotsFew := -1; slotsFew <= 11; slotsFew++ {
						for slotsAll := -1; slotsAll <= 11; slotsAll++ {
							look(t, place{size, usedFew, usedAll, slotsFew, slotsAll, amt})
						}
					}
				}
			}
		}
	}
}
