package tests

import (
	"slices"
	"testing"

	"loop.example/g01217/impl"
)

func TestCountTracks(t *testing.T) {
	wanted := map[impl.Box]int{
		box(0, 0): 1, box(1, 0): 1, box(12, 0): 1, box(0, 1): 2, box(1, 1): 4, box(2, 1): 6, box(1, 2): 12, box(11, 1): 24, box(0, 12): 4096,
		box(2, 8): 45 * 256, box(4, 8): 495 * 256, box(6, 6): 924 * 64, box(1, 11): 12 * 2048,
	}
	for b, want := range wanted {
		same(t, got(impl.CountTracks(b)), gives(want), "CountTracks", b)
	}
	for _, b := range boxesUpTo(12) {
		count := 0
		modelLayAll(b, func(string) { count++ })
		same(t, got(impl.CountTracks(b)), gives(count), "CountTracks", b)
	}
	for _, b := range boxesOver(12) {
		same(t, got(impl.CountTracks(b)), failsAs[int](), "CountTracks", b)
	}
}

// TestTracksOfAllBoxes checks that the boxes of n pieces make all tracks of n pieces together.
func TestTracksOfAllBoxes(t *testing.T) {
	all := 1
	for n := range 13 {
		sum := 0
		for _, b := range boxesOf(n) {
			sum += sure(impl.CountTracks(b))
		}
		same(t, sum, all, "the tracks of all boxes", n)
		all *= 3
	}
}

// boxRings are boxes from which no ring is laid whole, one class of them, and several classes.
var boxRings = map[impl.Box]struct {
	count int
	rings string
}{
	box(0, 0):  {0, ""},
	box(8, 0):  {0, ""},
	box(0, 7):  {0, ""},
	box(1, 7):  {0, ""},
	box(1, 8):  {0, ""},
	box(0, 9):  {0, ""},
	box(0, 10): {0, ""},
	box(12, 0): {0, ""},
	box(3, 9):  {0, ""},
	box(2, 10): {0, ""},
	box(0, 8):  {2, "LLLLLLLL"},
	box(2, 8):  {10, "LLLLSLLLLS"},
	box(0, 12): {12, "LLLLLRLLLLLR"},
	box(4, 8):  {30, "LLLLSSLLLLSS LLLSLSLLLSLS LLSLLSLLSLLS"},
}

func TestRingsFromBoxes(t *testing.T) {
	for b, want := range boxRings {
		same(t, got(impl.CountRingsFrom(b)), gives(want.count), "CountRingsFrom", b)
		same(t, listed(impl.RingsFrom(b)), gives(want.rings), "RingsFrom", b)
	}
	for _, b := range boxesUpTo(12) {
		same(t, got(impl.CountRingsFrom(b)), gives(len(modelRingsFrom(b))), "CountRingsFrom", b)
		same(t, listed(impl.RingsFrom(b)), listed(modelFirstsFrom(b), true), "RingsFrom", b)
	}
	// Of 14 pieces there are rings, but these are more than MaxBox.
	for _, b := range boxesOver(12) {
		same(t, got(impl.CountRingsFrom(b)), failsAs[int](), "CountRingsFrom", b)
		same(t, listed(impl.RingsFrom(b)), failsAs[string](), "RingsFrom", b)
	}
}

// TestRingsAreSomeOfAllTracks looks at all tracks of the pieces of a box, and asks which are rings.
func TestRingsAreSomeOfAllTracks(t *testing.T) {
	for _, b := range boxesUpTo(12) {
		var rings, firsts []string
		modelLayAll(b, func(track string) {
			if impl.IsRing(track) {
				rings = append(rings, track)
			}
		})
		for _, ring := range rings {
			if sure(impl.ClassRing(ring)) == ring {
				firsts = append(firsts, ring)
			}
		}
		same(t, got(impl.CountRingsFrom(b)), gives(len(rings)), "CountRingsFrom", b)
		same(t, listed(impl.RingsFrom(b)), listed(firsts, true), "RingsFrom", b)
	}
}

// TestRingsAreCountedByClasses checks that the variants of the first rings of a box are its rings, each once.
func TestRingsAreCountedByClasses(t *testing.T) {
	for _, b := range boxesUpTo(12) {
		sum := 0
		all := map[string]bool{}
		for _, ring := range sure(impl.RingsFrom(b)) {
			same(t, got(impl.BoxOf(ring)), gives(b), "BoxOf", ring)
			same(t, got(impl.ClassRing(ring)), gives(ring), "ClassRing", ring)
			sum += sure(impl.CountVariants(ring))
			for variant := range laidVariants(ring) {
				same(t, got(impl.BoxOf(variant)), gives(b), "BoxOf", variant)
				all[variant] = true
			}
		}
		same(t, got(impl.CountRingsFrom(b)), gives(sum), "CountRingsFrom", b)
		same(t, len(all), sum, "all variants", b)
	}
}

// TestRingsOfAllBoxes holds the rings of boxes against the closed tracks of chapter 3 and the classes of chapter 4.
func TestRingsOfAllBoxes(t *testing.T) {
	for n := 1; n <= 12; n++ {
		var rings []string
		sum := 0
		for _, b := range boxesOf(n) {
			count := 0
			for lefts := range b.Curves + 1 {
				count += sure(impl.CountClosedWith(b.Straights, lefts, b.Curves-lefts))
			}
			same(t, got(impl.CountRingsFrom(b)), gives(count), "CountRingsFrom", b)
			sum += count
			rings = append(rings, sure(impl.RingsFrom(b))...)
		}
		slices.Sort(rings)
		same(t, listed(impl.AllClasses(n)), listed(rings, true), "AllClasses", n)
		same(t, got(impl.CountClosed(n)), gives(sum), "CountClosed", n)
	}
}

func TestLongestRing(t *testing.T) {
	wanted := map[impl.Box]answer[string]{
		// No ring has so few curves, or so few pieces.
		box(0, 0): failsAs[string](), box(12, 0): failsAs[string](), box(5, 7): failsAs[string](), box(0, 7): failsAs[string](), box(1, 0): failsAs[string](),
		// Two rings, and more with straights: the first one of as many pieces.
		box(0, 8): gives("LLLLLLLL"), box(2, 8): gives("LLLLSLLLLS"), box(0, 12): gives("LLLLLRLLLLLR"), box(4, 8): gives("LLLLSSLLLLSS"),
		// Pieces are left.
		box(1, 8): gives("LLLLLLLL"), box(0, 11): gives("LLLLLLLL"), box(1, 11): gives("LLLLLLLL"),
		box(3, 8): gives("LLLLSLLLLS"), box(2, 9): gives("LLLLSLLLLS"), box(2, 10): gives("LLLLSLLLLS"), box(3, 9): gives("LLLLSLLLLS"),
	}
	for b, want := range wanted {
		same(t, got(impl.LongestRing(b)), want, "LongestRing", b)
	}
	for _, b := range boxesUpTo(12) {
		same(t, got(impl.LongestRing(b)), modelLongest(b), "LongestRing", b)
	}
	for _, b := range boxesOver(12) {
		same(t, got(impl.LongestRing(b)), failsAs[string](), "LongestRing", b)
	}
}

// TestNoRingIsLonger holds the longest ring against all rings that are laid from a box.
func TestNoRingIsLonger(t *testing.T) {
	for _, b := range boxesUpTo(12) {
		longest, ok := impl.LongestRing(b)
		same(t, ok && impl.IsRing(longest) && sure(impl.CanLay(b, longest)), ok, "a ring is laid", b, longest)
		for n := 1; n <= 12; n++ {
			for _, ring := range modelClosed()[n] {
				if sure(impl.CanLay(b, ring)) {
					same(t, ok, true, "LongestRing succeeds", b)
					same(t, n < len(longest) || n == len(longest) && longest <= ring, true, "LongestRing is the first one", b, longest, ring)
				}
			}
		}
	}
}

func TestRingBoxes(t *testing.T) {
	wanted := map[int][]impl.Box{8: {box(0, 8)}, 10: {box(2, 8)}, 12: {box(0, 12), box(4, 8)}}
	for n := 1; n <= 12; n++ {
		same(t, printed(impl.RingBoxes(n)), printed(wanted[n], true), "RingBoxes", n)
		same(t, printed(impl.RingBoxes(n)), printed(modelRingBoxes(n), true), "RingBoxes", n)
		for _, b := range boxesOf(n) {
			has := sure(impl.CountRingsFrom(b)) > 0
			same(t, slices.Contains(sure(impl.RingBoxes(n)), b), has, "RingBoxes has", b)
		}
	}
	for _, n := range noRingLengths {
		same(t, printed(impl.RingBoxes(n)), failsAs[string](), "RingBoxes", n)
	}
}

func TestCheapestRing(t *testing.T) {
	rows := []struct {
		n, straight, curve int
		want               answer[cheapest]
	}{
		{8, 3, 5, gives(cheapest{box(0, 8), 40})},
		{8, 1000, 0, gives(cheapest{box(0, 8), 0})},
		{8, 0, 1000, gives(cheapest{box(0, 8), 8000})},
		{10, 3, 5, gives(cheapest{box(2, 8), 46})},
		{10, 0, 0, gives(cheapest{box(2, 8), 0})},
		// The second box has four straights in place of curves.
		{12, 4, 5, gives(cheapest{box(4, 8), 56})},
		{12, 0, 1, gives(cheapest{box(4, 8), 8})},
		{12, 999, 1000, gives(cheapest{box(4, 8), 11996})},
		{12, 5, 4, gives(cheapest{box(0, 12), 48})},
		{12, 1000, 999, gives(cheapest{box(0, 12), 11988})},
		// Both cost the same.
		{12, 0, 0, gives(cheapest{box(0, 12), 0})},
		{12, 7, 7, gives(cheapest{box(0, 12), 84})},
		{12, 1000, 1000, gives(cheapest{box(0, 12), 12000})},
		// No ring has so many pieces.
		{1, 3, 5, failsAs[cheapest]()},
		{7, 0, 0, failsAs[cheapest]()},
		{9, 1000, 1000, failsAs[cheapest]()},
		{11, 3, 5, failsAs[cheapest]()},
	}
	for _, row := range rows {
		same(t, cheapestRing(row.n, row.straight, row.curve), row.want, "CheapestRing", row.n, row.straight, row.curve)
	}
	for n := 1; n <= 12; n++ {
		for _, straight := range somePrices {
			for _, curve := range somePrices {
				same(t, cheapestRing(n, straight, curve), modelCheapest(n, straight, curve), "CheapestRing", n, straight, curve)
			}
		}
	}
}

// TestNoRingIsCheaper holds the cheapest ring against all boxes of rings and their prices.
func TestNoRingIsCheaper(t *testing.T) {
	for _, n := range []int{8, 10, 12} {
		for _, straight := range somePrices {
			for _, curve := range somePrices {
				least := cheapestRing(n, straight, curve).value
				same(t, got(impl.PriceOf(least.box, straight, curve)), gives(least.price), "PriceOf", least.box, straight, curve)
				isBehind := false
				for _, b := range sure(impl.RingBoxes(n)) {
					isBehind = isBehind || b == least.box
					price := sure(impl.PriceOf(b, straight, curve))
					same(t, least.price < price || least.price == price && isBehind, true, "CheapestRing is the first one", n, straight, curve, b)
				}
				same(t, isBehind, true, "CheapestRing is one of RingBoxes", n, straight, curve)
			}
		}
	}
}
