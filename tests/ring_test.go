package tests

import (
	"slices"
	"strings"
	"testing"

	"loop.example/g01217/impl"
)

func TestIsRingExamples(t *testing.T) {
	wanted := map[string]bool{
		"LLLLLLLL": true, "RRRRRRRR": true, "SLLLLSLLLL": true, "LLLLLLLLRRRRRRRR": true, strings.Repeat("L", 40): true,
		"": false, "LLLL": false, "LRLR": false, "LLLLLLLLL": false, "LLLLSLLLL": false, "SLLLLLLS": false, strings.Repeat("L", 48): false,
		"LLLLLLLX": false,
	}
	for text, want := range wanted {
		same(t, impl.IsRing(text), want, "IsRing", text)
	}
	same(t, impl.MaxRing, 12, "MaxRing")
}

func TestIsRingLikeTheModel(t *testing.T) {
	for _, track := range append(tracksUpTo(10), longTracks()...) {
		same(t, impl.IsRing(track), modelIsClosed(track), "IsRing", track)
	}
	for _, ring := range someRings() {
		same(t, modelIsClosed(ring), true, "a ring in the model", ring)
		same(t, impl.IsRing(ring), true, "IsRing", ring)
		same(t, impl.IsRing(ring[1:]), false, "IsRing without the first piece", ring)
	}
	for _, text := range noRings() {
		same(t, impl.IsRing(text), false, "IsRing", text)
	}
}

func TestLeastRing(t *testing.T) {
	wanted := map[string]string{
		"LLLLLLLL": "LLLLLLLL", "RRRRRRRR": "RRRRRRRR", "SLLLLSLLLL": "LLLLSLLLLS", "SRRRRSRRRR": "RRRRSRRRRS",
		"RRRRRRRRLLLLLLLL": "LLLLLLLLRRRRRRRR", "LSLLSLLSLLSL": "LLSLLSLLSLLS", "SLLLLSLLLLRRRRSRRRRS": "LLLLRRRRSRRRRSSLLLLS",
	}
	for ring, want := range wanted {
		same(t, got(impl.LeastRing(ring)), gives(want), "LeastRing", ring)
	}
	for _, ring := range someRings() {
		want := ring
		for k := range ring {
			want = min(want, ring[k:]+ring[:k])
		}
		same(t, got(impl.LeastRing(ring)), gives(want), "LeastRing", ring)
	}
}

// TestLeastRingOfSpunOnes checks that all spun rings, as chapter 3 spins them, have one least ring, which is one of them.
func TestLeastRingOfSpunOnes(t *testing.T) {
	for _, ring := range append(shortClosed(), likeThemselves()...) {
		least := got(impl.LeastRing(ring))
		is := false
		for k := range ring {
			spun := sure(impl.SpinTrack(ring, k))
			same(t, got(impl.LeastRing(spun)), least, "LeastRing of the spun", spun)
			is = is || spun == least.value
		}
		same(t, is, true, "LeastRing is spun", ring)
	}
}

func TestPeriodOfRing(t *testing.T) {
	wanted := map[string]int{
		"LLLLLLLL": 1, "RRRRRRRR": 1, strings.Repeat("L", 40): 1, "SLLLLSLLLL": 5, strings.Repeat("SLLLLSLLLL", 4): 5, "LSLLSLLSLLSL": 3,
		"LLLLLRLLLLLR": 6, "LLLLLLLLRRRRRRRR": 16, strings.Repeat("RRRRRRRRLLLLLLLL", 2): 16, "LLLLLRLSLLLLSR": 14, strings.Repeat("SL", 8): 2,
	}
	for ring, want := range wanted {
		same(t, got(impl.PeriodOfRing(ring)), gives(want), "PeriodOfRing", ring)
	}
	less := 0
	for _, ring := range someRings() {
		want := modelPeriod(ring)
		same(t, got(impl.PeriodOfRing(ring)), gives(want), "PeriodOfRing", ring)
		same(t, len(ring)%want, 0, "the pieces divided by the period", ring)
		same(t, strings.Repeat(ring[:want], len(ring)/want), ring, "the pieces of a period, again and again", ring)
		if want < len(ring) {
			less++
		}
	}
	if less < 100 {
		t.Error("there are too few rings with a lesser period:", less)
	}
}

// TestPeriodsOfVariants checks that all variants of a ring have its period, and that this is how many spun ones are different.
func TestPeriodsOfVariants(t *testing.T) {
	for _, ring := range append(shortClosed(), likeThemselves()...) {
		period := got(impl.PeriodOfRing(ring))
		different := map[string]bool{}
		for k := range ring {
			different[ring[k:]+ring[:k]] = true
		}
		same(t, period, gives(len(different)), "PeriodOfRing", ring)
		for _, variant := range modelVariants(ring) {
			same(t, got(impl.PeriodOfRing(variant)), period, "PeriodOfRing", variant, "of", ring)
		}
	}
}

func TestOwnMirrorAndOwnBack(t *testing.T) {
	wanted := map[string][2]bool{
		"LLLLLLLL": {false, false}, "SLLLLSLLLL": {false, false}, "LLLLLRLSLLLLSR": {false, false}, strings.Repeat("R", 40): {false, false},
		"LLLLLLLLRRRRRRRR": {true, true}, "RRRRLLLLLLLLRRRR": {true, true}, "LLLLLLSSRRRRRRSS": {true, true}, "SLLLLSLLLLSRRRRSRRRR": {true, true},
		"SLLLLSLLLLRRRRSRRRRS": {false, true}, "LLLLLRLSLLLLSRLSRRRRSRLRRRRR": {false, true},
		"LLLLLRLSLLLLSRRRRRRLRSRRRRSL": {true, false},
		// The winding is 0, but the halves are not alike.
		"LLLLLLLLRRRRSRRRRS": {false, false}, "LLLLLLLLRRRRRLRRRRRL": {false, false},
	}
	for ring, want := range wanted {
		same(t, impl.IsRing(ring), true, "IsRing", ring)
		same(t, got(impl.IsOwnMirror(ring)), gives(want[0]), "IsOwnMirror", ring)
		same(t, got(impl.IsOwnBack(ring)), gives(want[1]), "IsOwnBack", ring)
	}
}

func TestOwnOnesLikeTheModel(t *testing.T) {
	kinds := map[[2]bool]int{}
	for _, ring := range someRings() {
		mirror, back := modelIsSpun(ring, modelMirror(ring)), modelIsSpun(ring, modelBack(ring))
		same(t, got(impl.IsOwnMirror(ring)), gives(mirror), "IsOwnMirror", ring)
		same(t, got(impl.IsOwnBack(ring)), gives(back), "IsOwnBack", ring)
		kinds[[2]bool{mirror, back}]++
	}
	for _, kind := range [][2]bool{{false, false}, {false, true}, {true, false}, {true, true}} {
		if kinds[kind] < 5 {
			t.Error("there are too few rings that are their own mirror or back so:", kind, kinds[kind])
		}
	}
}

// TestOwnOnesWindNot checks that a mirrored or backward ring winds the other way, so that only one with the winding 0 is its own.
func TestOwnOnesWindNot(t *testing.T) {
	for _, ring := range someRings() {
		mirror, back := sure(impl.IsOwnMirror(ring)), sure(impl.IsOwnBack(ring))
		if mirror || back {
			same(t, got(impl.WindingOf(ring)), gives(0), "WindingOf", ring)
		}
		// Both together are the ring backwards, with the same winding.
		same(t, mirror == back || !modelIsSpun(ring, modelReversed(ring)), true, "IsOwnMirror and IsOwnBack", ring)
	}
}

// TestOwnOnesOfVariants checks that all variants of a ring are their own mirror or back just as it is.
func TestOwnOnesOfVariants(t *testing.T) {
	for _, ring := range append(shortClosed(), likeThemselves()...) {
		mirror, back := got(impl.IsOwnMirror(ring)), got(impl.IsOwnBack(ring))
		variants := modelVariants(ring)
		for i := 0; i < len(variants); i += 3 {
			same(t, got(impl.IsOwnMirror(variants[i])), mirror, "IsOwnMirror", variants[i], "of", ring)
			same(t, got(impl.IsOwnBack(variants[i])), back, "IsOwnBack", variants[i], "of", ring)
		}
		same(t, slices.Contains(variants, sure(impl.MirrorTrack(ring))), true, "MirrorTrack is a variant", ring)
		same(t, slices.Contains(variants, sure(impl.BackTrack(ring))), true, "BackTrack is a variant", ring)
	}
}
