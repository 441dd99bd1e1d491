package tests

import (
	"testing"

	"loop.example/g01217/impl"
)

func TestCountEnds(t *testing.T) {
	wanted := map[impl.Box]int{
		// One track each, or all with different ends.
		box(0, 0): 1, box(1, 0): 1, box(8, 0): 1, box(0, 1): 2, box(1, 1): 4, box(0, 2): 4, box(0, 3): 8,
		// SLR and LRS have the same end, and so have SRL and RLS.
		box(1, 2): 10,
	}
	for b, want := range wanted {
		same(t, got(impl.CountEnds(b)), gives(want), "CountEnds", b)
	}
	shared := 0
	for _, b := range boxesUpTo(8) {
		ends := modelCountEnds(b)
		same(t, got(impl.CountEnds(b)), gives(ends), "CountEnds", b)
		if ends < sure(impl.CountTracks(b)) {
			shared++
		}
	}
	if shared < 15 {
		t.Error("there are too few boxes with ends that several tracks share:", shared)
	}
}

// TestEndsAreTold lays all tracks of a box with the functions of chapter 2, and counts each end with which no earlier one agrees.
func TestEndsAreTold(t *testing.T) {
	for _, b := range boxesUpTo(5) {
		var firsts []string
		modelLayAll(b, func(track string) {
			for _, first := range firsts {
				if sure(impl.AreSameEnds(first, track)) {
					return
				}
			}
			firsts = append(firsts, track)
		})
		same(t, got(impl.CountEnds(b)), gives(len(firsts)), "CountEnds", b)
	}
}

func TestFarthestEnd(t *testing.T) {
	wanted := map[impl.Box]distant{
		box(0, 0): {"", surd(0, 0)}, box(1, 0): {"S", surd(1, 0)}, box(3, 0): {"SSS", surd(9, 0)}, box(8, 0): {"SSSSSSSS", surd(64, 0)},
		// R is as far as L, and comes later.
		box(0, 1): {"L", surd(2, -1)},
		// All four are as far.
		box(1, 1): {"LS", surd(3, 0)},
		// LL comes first, but is nearer.
		box(0, 2): {"LR", surd(8, -4)},
		// LSR and SLR are as far, and mirrored ones, too.
		box(1, 2): {"LRS", surd(9, -2)},
	}
	for b, want := range wanted {
		same(t, farthestEnd(b), gives(want), "FarthestEnd", b)
	}
	for _, b := range boxesUpTo(8) {
		same(t, farthestEnd(b), gives(modelFarthestEnd(b)), "FarthestEnd", b)
	}
}

// TestNoEndIsFarther holds the farthest end against those of all tracks of a box.
func TestNoEndIsFarther(t *testing.T) {
	equal := 0
	for _, b := range boxesUpTo(8) {
		far := farthestEnd(b).value
		end, _, ok := impl.EndOf(far.track)
		same(t, got(impl.NormOf(end)), answer[impl.Surd]{far.norm, ok}, "NormOf the end of", far.track)
		same(t, got(impl.BoxOf(far.track)), gives(b), "BoxOf", far.track)
		modelLayAll(b, func(track string) {
			other, _, _ := impl.EndOf(track)
			order := sure(impl.CompareNorms(other, end))
			same(t, order < 0 || order == 0 && far.track <= track, true, "FarthestEnd is the first one", b, far.track, track)
			if order == 0 && track != far.track {
				equal++
			}
		})
	}
	if equal < 50 {
		t.Error("there are too few ends that are as far:", equal)
	}
}

func TestHowManyPiecesHaveEnds(t *testing.T) {
	for _, b := range boxesOf(8) {
		same(t, got(impl.CountEnds(b)).ok, true, "CountEnds succeeds", b)
		same(t, farthestEnd(b).ok, true, "FarthestEnd succeeds", b)
	}
	for _, b := range boxesOver(8) {
		same(t, got(impl.CountEnds(b)), failsAs[int](), "CountEnds", b)
		same(t, farthestEnd(b), failsAs[distant](), "FarthestEnd", b)
	}
}
