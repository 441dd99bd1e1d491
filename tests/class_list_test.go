package tests

import (
	"fmt"
	"math"
	"slices"
	"strings"
	"testing"

	"loop.example/g01217/impl"
)

// sizesOfClasses is the answer of SizesOfClasses with the list as a text, so that it is compared at once.
func sizesOfClasses(n int) answer[string] {
	sizes, ok := impl.SizesOfClasses(n)
	return answer[string]{numbered(sizes), ok}
}

func numbered(list []int) string { return strings.Trim(fmt.Sprint(list), "[]") }

// noRingLengths are numbers of pieces for which no classes are found.
var noRingLengths = []int{math.MinInt, math.MinInt + 1, -1 << 32, -8, -1, 0, 13, 14, 16, 40, 1<<32 + 8, math.MaxInt - 1, math.MaxInt}

func TestAllClasses(t *testing.T) {
	wanted := map[int][2]string{
		8:  {"LLLLLLLL", "2"},
		10: {"LLLLSLLLLS", "10"},
		12: {"LLLLLRLLLLLR LLLLSSLLLLSS LLLSLSLLLSLS LLSLLSLLSLLS", "12 12 12 6"},
	}
	for n := 1; n <= 12; n++ {
		same(t, listed(impl.AllClasses(n)), gives(wanted[n][0]), "AllClasses", n)
		same(t, got(impl.CountClasses(n)), gives(len(strings.Fields(wanted[n][0]))), "CountClasses", n)
		same(t, sizesOfClasses(n), gives(wanted[n][1]), "SizesOfClasses", n)
	}
}

func TestClassesLikeTheModel(t *testing.T) {
	for n := 1; n <= 12; n++ {
		var firsts []string
		var sizes []int
		for _, class := range modelClasses(n) {
			firsts = append(firsts, class[0])
			sizes = append(sizes, len(class))
		}
		same(t, listed(impl.AllClasses(n)), listed(firsts, true), "AllClasses", n)
		same(t, got(impl.CountClasses(n)), gives(len(firsts)), "CountClasses", n)
		same(t, sizesOfClasses(n), gives(numbered(sizes)), "SizesOfClasses", n)
	}
}

// TestSizesAddUp checks that the classes are all closed tracks of chapter 3, each once.
func TestSizesAddUp(t *testing.T) {
	for n := 1; n <= 12; n++ {
		sum := 0
		for _, size := range sure(impl.SizesOfClasses(n)) {
			sum += size
		}
		same(t, got(impl.CountClosed(n)), gives(sum), "CountClosed", n)
	}
	for n := 1; n <= 10; n++ {
		var all []string
		for _, ring := range sure(impl.AllClasses(n)) {
			for variant := range laidVariants(ring) {
				all = append(all, variant)
			}
		}
		slices.Sort(all)
		same(t, listed(impl.ClosedTracks(n)), listed(all, true), "ClosedTracks", n)
	}
}

func TestListedRingsAreFirstOnes(t *testing.T) {
	for n := 1; n <= 12; n++ {
		rings, sizes := sure(impl.AllClasses(n)), sure(impl.SizesOfClasses(n))
		same(t, slices.IsSorted(rings), true, "AllClasses in order", n)
		same(t, len(sizes), len(rings), "the number of SizesOfClasses", n)
		for i, ring := range rings {
			same(t, len(ring), n, "the number of pieces", ring)
			same(t, got(impl.ClassRing(ring)), gives(ring), "ClassRing", ring)
			same(t, got(impl.CountVariants(ring)), gives(sizes[i]), "CountVariants", ring)
			for _, other := range rings[:i] {
				same(t, got(impl.AreOneClass(ring, other)), gives(false), "AreOneClass", ring, other)
			}
		}
		for _, ring := range modelClosed()[n] {
			same(t, slices.Contains(rings, sure(impl.ClassRing(ring))), true, "listed the class of", ring)
		}
	}
}

// TestCountOwnOnes checks that none are their own mirror or back: the shortest rings that do not wind have more than MaxRing pieces.
func TestCountOwnOnes(t *testing.T) {
	for n := 1; n <= 12; n++ {
		mirrors, backs := 0, 0
		for _, class := range modelClasses(n) {
			if modelIsSpun(class[0], modelMirror(class[0])) {
				mirrors++
			}
			if modelIsSpun(class[0], modelBack(class[0])) {
				backs++
			}
		}
		same(t, mirrors+backs, 0, "how many are their own in the model", n)
		same(t, got(impl.CountOwnMirror(n)), gives(mirrors), "CountOwnMirror", n)
		same(t, got(impl.CountOwnBack(n)), gives(backs), "CountOwnBack", n)
	}
}

func TestNoNumbersOfPiecesOfRings(t *testing.T) {
	for _, n := range noRingLengths {
		same(t, listed(impl.AllClasses(n)), failsAs[string](), "AllClasses", n)
		same(t, got(impl.CountClasses(n)), failsAs[int](), "CountClasses", n)
		same(t, sizesOfClasses(n), failsAs[string](), "SizesOfClasses", n)
		same(t, got(impl.CountOwnMirror(n)), failsAs[int](), "CountOwnMirror", n)
		same(t, got(impl.CountOwnBack(n)), failsAs[int](), "CountOwnBack", n)
	}
}
