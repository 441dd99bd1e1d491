package tests

import (
	"strings"
	"testing"

	"loop.example/g01217/impl"
)

func TestGrowRing(t *testing.T) {
	wanted := []string{"SLLLLSLLLL", "LSLLLLSLLL", "LLSLLLLSLL", "LLLSLLLLSL", "SLLLLSLLLL", "LSLLLLSLLL", "LLSLLLLSLL", "LLLSLLLLSL"}
	for heading, want := range wanted {
		same(t, got(impl.GrowRing("LLLLLLLL", heading)), gives(want), "GrowRing LLLLLLLL", heading)
	}
	// The first piece with a heading is looked for, not one that is the first behind a curve.
	same(t, got(impl.GrowRing("LLLLSLLLLS", 0)), gives("SLLLLSSLLLLS"), "GrowRing LLLLSLLLLS 0")
	same(t, got(impl.GrowRing("SLLLLSLLLL", 1)), gives("SLSLLLSLSLLL"), "GrowRing SLLLLSLLLL 1")
	// Curves to the right come to the headings 7, 6 and so on.
	same(t, got(impl.GrowRing("RRRRRRRR", 1)), gives("RRRSRRRRSR"), "GrowRing RRRRRRRR 1")
	same(t, got(impl.GrowRing("RRRRRRRR", 6)), gives("RRSRRRRSRR"), "GrowRing RRRRRRRR 6")
	// The heading turned round may come first, and a ring that goes around twice grows once.
	same(t, got(impl.GrowRing(strings.Repeat("L", 16), 6)), gives("LLSLLLLSLLLLLLLLLL"), "GrowRing of 16 pieces L")
}

// TestGrowRingWithoutHeadings takes rings in which no piece begins with one of the headings: on the way back none comes around.
func TestGrowRingWithoutHeadings(t *testing.T) {
	for heading := range 8 {
		left, right := "LLLLLLSSRRRRRRSS", "RRRRRRSSLLLLLLSS"
		same(t, impl.IsRing(left) && impl.IsRing(right), true, "IsRing")
		same(t, sure(impl.HeadingCounts(left))[7] == 0 && sure(impl.HeadingCounts(right))[1] == 0, true, "HeadingCounts")
		same(t, got(impl.GrowRing(left, heading)).ok, heading != 7 && heading != 3, "GrowRing succeeds", left, heading)
		same(t, got(impl.GrowRing(right, heading)).ok, heading != 1 && heading != 5, "GrowRing succeeds", right, heading)
	}
}

func TestGrowRingLikeTheModel(t *testing.T) {
	failed := 0
	for _, ring := range someRings() {
		for heading := range 8 {
			want := modelGrow(ring, heading)
			same(t, got(impl.GrowRing(ring, heading)), want, "GrowRing", ring, heading)
			if !want.ok {
				failed++
			}
		}
	}
	if failed < 20 {
		t.Error("there are too few rings that do not grow:", failed)
	}
}

// TestGrownRingsAreRings checks that a grown ring is a ring with two straights more, and grows in the same way for the heading turned round.
func TestGrownRingsAreRings(t *testing.T) {
	for _, ring := range someRings() {
		for heading := range 8 {
			grown, ok := impl.GrowRing(ring, heading)
			same(t, got(impl.GrowRing(ring, (heading+4)%8)), answer[string]{grown, ok}, "GrowRing turned round", ring, heading)
			if !ok {
				continue
			}
			same(t, impl.IsRing(grown), true, "IsRing", grown, "of", ring, heading)
			same(t, modelIsClosed(grown), true, "a ring in the model", grown, "of", ring, heading)
			straights := sure(impl.CountPiece(ring, "S")) + 2
			same(t, got(impl.CountPiece(grown, "S")), gives(straights), "CountPiece S", grown, "of", ring, heading)
			same(t, strings.ReplaceAll(grown, "S", ""), strings.ReplaceAll(ring, "S", ""), "the curves of", grown)
		}
	}
}

// TestGrowRingToTheLimit grows a ring up to MaxPieces pieces, and no further.
func TestGrowRingToTheLimit(t *testing.T) {
	ring := "LLLLLLLL"
	for straights := 1; straights <= 16; straights++ {
		side := strings.Repeat("S", straights) + "LLLL"
		same(t, got(impl.GrowRing(ring, 4)), gives(side+side), "GrowRing", ring, 4)
		ring = sure(impl.GrowRing(ring, 0))
		same(t, ring, side+side, "the ring grown for 0")
	}
	same(t, len(ring), 40, "the number of pieces")
	for _, full := range []string{ring, strings.Repeat("L", 40), strings.Repeat("SRRRRSRRRR", 4)} {
		for heading := range 8 {
			same(t, got(impl.GrowRing(full, heading)), failsAs[string](), "GrowRing", full, heading)
		}
	}
}

func TestRingCrossings(t *testing.T) {
	wanted := map[string]int{
		"LLLLLLLL": 0, "RRRRRRRR": 0, "SLLLLSLLLL": 0, strings.Repeat("SSSL", 8): 0,
		// Two circles touch at one joint, and others lie on each other.
		"LLLLLLLLRRRRRRRR": 1, "LLLLRRRRRRRRLLLL": 1, strings.Repeat("L", 16): 8, strings.Repeat("R", 40): 80,
		strings.Repeat("SLLLLSLLLL", 4): 60, "SLLLLLLLLLLLLSLLLL": 5,
	}
	for ring, want := range wanted {
		same(t, impl.IsRing(ring), true, "IsRing", ring)
		same(t, got(impl.RingCrossings(ring)), gives(want), "RingCrossings", ring)
	}
	some := 0
	for _, ring := range someRings() {
		want := modelCrossings(ring)
		same(t, got(impl.RingCrossings(ring)), gives(want), "RingCrossings", ring)
		same(t, got(impl.IsPlain(ring)), gives(want == 0), "IsPlain", ring)
		if want > 0 {
			some++
		}
	}
	if some < 100 {
		t.Error("there are too few rings with crossings:", some)
	}
}

// TestCrossingsOfVariants checks that a ring crosses itself as often from each beginning, mirrored and backwards.
func TestCrossingsOfVariants(t *testing.T) {
	rings := likeThemselves()
	for i, ring := range longClosed() {
		if i%20 < 3 {
			rings = append(rings, ring)
		}
	}
	for _, ring := range rings {
		crossings := got(impl.RingCrossings(ring))
		for _, variant := range modelVariants(ring) {
			same(t, got(impl.RingCrossings(variant)), crossings, "RingCrossings", variant, "of", ring)
		}
	}
}
