package tests

import (
	"strings"
	"testing"

	"loop.example/g01217/impl"
)

func TestClassRing(t *testing.T) {
	wanted := map[string]string{
		"LLLLLLLL": "LLLLLLLL", "RRRRRRRR": "LLLLLLLL", "SLLLLSLLLL": "LLLLSLLLLS", "RRRRSRRRRS": "LLLLSLLLLS", "SRRRRSRRRR": "LLLLSLLLLS",
		"RRRRRRRRLLLLLLLL": "LLLLLLLLRRRRRRRR", strings.Repeat("R", 40): strings.Repeat("L", 40),
		// The first ones of these are spun ones of the ring itself, mirrored, backwards, and both.
		"LLLLLRLSLLLLSR": "LLLLLRLSLLLLSR", "RRRRRLRSRRRRSL": "LLLLLRLSLLLLSR", "LSRRRRSRLRRRRR": "LLLLLRLSLLLLSR", "RSLLLLSLRLLLLL": "LLLLLRLSLLLLSR",
	}
	for ring, want := range wanted {
		same(t, impl.IsRing(ring), true, "IsRing", ring)
		same(t, got(impl.ClassRing(ring)), gives(want), "ClassRing", ring)
	}
	for _, ring := range someRings() {
		same(t, got(impl.ClassRing(ring)), gives(modelVariants(ring)[0]), "ClassRing", ring)
	}
}

func TestCountVariants(t *testing.T) {
	wanted := map[string]int{
		"LLLLLLLL": 2, "RRRRRRRR": 2, strings.Repeat("L", 40): 2, "SLLLLSLLLL": 10, "LSLLSLLSLLSL": 6, "LLLLLRLLLLLR": 12,
		// As many as pieces, twice as many, or four times as many.
		"LLLLLLLLRRRRRRRR": 16, "LLLLLLSSRRRRRRSS": 16, "SLLLLSLLLLRRRRSRRRRS": 40, "LLLLLRLSLLLLSR": 56,
		strings.Repeat("LLLLLRLSLLLLSR", 2): 56,
	}
	for ring, want := range wanted {
		same(t, got(impl.CountVariants(ring)), gives(want), "CountVariants", ring)
	}
	for _, ring := range someRings() {
		same(t, got(impl.CountVariants(ring)), gives(len(modelVariants(ring))), "CountVariants", ring)
		same(t, len(modelVariants(ring)) <= 4*len(ring), true, "at most four times as many variants as pieces", ring)
	}
}

// laidVariants lays all variants of a ring one by one, with the functions of the chapters 2 and 3.
func laidVariants(ring string) map[string]bool {
	mirror, back := sure(impl.MirrorTrack(ring)), sure(impl.BackTrack(ring))
	laid := map[string]bool{}
	for _, track := range []string{ring, mirror, back, sure(impl.MirrorTrack(back))} {
		for k := range track {
			laid[sure(impl.SpinTrack(track, k))] = true
		}
	}
	return laid
}

// TestVariantsAreOfTheClass checks that the variants of a ring are rings of its class, as many as told, and that the first one is that of the class.
func TestVariantsAreOfTheClass(t *testing.T) {
	rings := append(shortClosed(), likeThemselves()...)
	for i, ring := range longClosed() {
		if i%20 < 2 {
			rings = append(rings, ring)
		}
	}
	for _, ring := range rings {
		variants, class := laidVariants(ring), sure(impl.ClassRing(ring))
		same(t, got(impl.CountVariants(ring)), gives(len(variants)), "CountVariants", ring)
		same(t, variants[class], true, "ClassRing is a variant", ring)
		same(t, variants[sure(impl.LeastRing(ring))], true, "LeastRing is a variant", ring)
		for variant := range variants {
			same(t, impl.IsRing(variant), true, "IsRing", variant, "of", ring)
			same(t, got(impl.ClassRing(variant)), gives(class), "ClassRing", variant, "of", ring)
			same(t, class <= variant, true, "ClassRing is the first one", variant, "of", ring)
			same(t, got(impl.CountVariants(variant)), gives(len(variants)), "CountVariants", variant, "of", ring)
			same(t, got(impl.AreOneClass(ring, variant)), gives(true), "AreOneClass", ring, variant)
		}
	}
}

func TestAreOneClass(t *testing.T) {
	wanted := map[[2]string]bool{
		{"LLLLLLLL", "LLLLLLLL"}: true, {"LLLLLLLL", "RRRRRRRR"}: true, {"SLLLLSLLLL", "RRRRSRRRRS"}: true, {"SLLLLSLLLL", "LLSLLLLSLL"}: true,
		{"LLLLLRLSLLLLSR", "RSLLLLSLRLLLLL"}: true, {"LLLLLLLLRRRRRRRR", "RRRRLLLLLLLLRRRR"}: true,
		{"LLLLLLLL", "SLLLLSLLLL"}: false, {"LLLLLLLL", strings.Repeat("L", 16)}: false, {strings.Repeat("R", 32), strings.Repeat("L", 40)}: false,
		// The pieces are the same, but in another order.
		{"LLLLSSLLLLSS", "LLLSLSLLLSLS"}: false, {"LLLLSSLLLLSS", "LLSLLSLLSLLS"}: false, {"LLLLLRLSLLLLSR", "LLLLLRSLLLLLRS"}: false,
	}
	for rings, want := range wanted {
		same(t, got(impl.AreOneClass(rings[0], rings[1])), gives(want), "AreOneClass", rings)
		same(t, got(impl.AreOneClass(rings[1], rings[0])), gives(want), "AreOneClass", rings[1], rings[0])
	}
}

func TestAreOneClassLikeTheModel(t *testing.T) {
	rings := someRings()
	firsts := map[string]string{}
	for _, ring := range rings {
		firsts[ring] = modelVariants(ring)[0]
	}
	for i, a := range rings {
		for k := range 12 {
			// Rings beside each other have as many pieces, mostly.
			b := rings[(i+k*k*k+k)%len(rings)]
			same(t, got(impl.AreOneClass(a, b)), gives(firsts[a] == firsts[b]), "AreOneClass", a, b)
		}
	}
}
