package tests

import (
	"math"
	"testing"

	"loop.example/g01217/impl"
)

// windings is the answer of CountByWinding; a list of another length is told by a count of -1.
func windings(n int) answer[[3]int] {
	counts, ok := impl.CountByWinding(n)
	if len(counts) == 3 {
		return answer[[3]int]{[3]int(counts), ok}
	}
	if len(counts) == 0 && !ok {
		return failsAs[[3]int]()
	}
	return answer[[3]int]{[3]int{-1, -1, -1}, ok}
}

// noClosedLengths are numbers of pieces for which no closed tracks are counted.
var noClosedLengths = []int{math.MinInt, math.MinInt + 1, -1 << 32, -8, -1, 0, 15, 16, 40, 1<<32 + 8, math.MaxInt - 1, math.MaxInt}

func TestNumbersOfClosedTracks(t *testing.T) {
	wanted := map[int][3]int{8: {1, 0, 1}, 10: {5, 0, 5}, 12: {21, 0, 21}, 14: {119, 0, 119}}
	for n := 1; n <= 14; n++ {
		same(t, windings(n), gives(wanted[n]), "CountByWinding", n)
		same(t, got(impl.CountClosed(n)), gives(wanted[n][0]+wanted[n][1]+wanted[n][2]), "CountClosed", n)
	}
	same(t, impl.MaxClosed, 14, "MaxClosed")
}

func TestCountsLikeTheModel(t *testing.T) {
	for n := 1; n <= 14; n++ {
		var want [3]int
		for _, track := range modelClosed()[n] {
			want[modelWinding(track)+1]++
		}
		same(t, windings(n), gives(want), "CountByWinding", n)
		same(t, got(impl.CountClosed(n)), gives(len(modelClosed()[n])), "CountClosed", n)
	}
}

func TestNoNumbersOfPieces(t *testing.T) {
	for _, n := range noClosedLengths {
		same(t, got(impl.CountClosed(n)), failsAs[int](), "CountClosed", n)
		same(t, windings(n), failsAs[[3]int](), "CountByWinding", n)
	}
}

func TestCountClosedWith(t *testing.T) {
	wanted := map[[3]int]int{
		{0, 8, 0}: 1, {0, 0, 8}: 1, {2, 8, 0}: 5, {2, 0, 8}: 5, {4, 8, 0}: 15, {4, 0, 8}: 15, {0, 10, 2}: 6, {0, 2, 10}: 6,
		{8, 0, 0}: 0, {0, 4, 4}: 0, {0, 6, 6}: 0, {1, 8, 0}: 0, {3, 8, 1}: 0, {1, 0, 0}: 0, {0, 1, 0}: 0, {0, 0, 1}: 0, {12, 0, 0}: 0,
		{0, 12, 0}: 0, {0, 0, 12}: 0, {2, 9, 1}: 0,
	}
	for n, want := range wanted {
		same(t, got(impl.CountClosedWith(n[0], n[1], n[2])), gives(want), "CountClosedWith", n)
	}
}

func TestCountClosedWithLikeTheModel(t *testing.T) {
	counts := map[[3]int]int{}
	for _, track := range shortClosed() {
		counts[modelTally(track)]++
	}
	for straights := -1; straights <= 14; straights++ {
		for lefts := -1; lefts <= 14; lefts++ {
			for rights := -1; rights <= 14; rights++ {
				n := straights + lefts + rights
				want := failsAs[int]()
				if min(straights, lefts, rights) >= 0 && 1 <= n && n <= 12 {
					want = gives(counts[[3]int{straights, lefts, rights}])
				}
				same(t, got(impl.CountClosedWith(straights, lefts, rights)), want, "CountClosedWith", straights, lefts, rights)
			}
		}
	}
}

// TestCountsOfPiecesAddUp checks that the closed tracks of n pieces are those of all numbers of each kind.
func TestCountsOfPiecesAddUp(t *testing.T) {
	for n := 1; n <= 12; n++ {
		sum := 0
		for straights := range n + 1 {
			for lefts := range n - straights + 1 {
				sum += sure(impl.CountClosedWith(straights, lefts, n-straights-lefts))
			}
		}
		same(t, got(impl.CountClosed(n)), gives(sum), "CountClosed", n)
	}
}

// TestGreatNumbersOfPieces checks numbers whose sum is small, or is so modulo 2^64.
func TestGreatNumbersOfPieces(t *testing.T) {
	calls := [][3]int{
		{0, 0, 0}, {13, 0, 0}, {0, 13, 0}, {0, 0, 13}, {5, 8, 0}, {4, 8, 1}, {-1, 8, 1}, {2, -1, 9}, {8, 8, -8}, {9, 0, -1}, {-2, 5, 5},
		{math.MaxInt, math.MinInt, 9}, {math.MinInt, math.MinInt, 8}, {math.MaxInt, math.MaxInt, 10}, {8, math.MaxInt, math.MinInt + 1},
		{math.MinInt, 0, 0}, {0, math.MaxInt, 0}, {1 << 62, 1 << 62, 1<<62 + 1}, {1 << 32, 8, -1 << 32},
	}
	for _, n := range calls {
		same(t, got(impl.CountClosedWith(n[0], n[1], n[2])), failsAs[int](), "CountClosedWith", n)
	}
	for _, a := range someInts {
		for _, b := range someInts {
			for _, c := range someInts {
				_, ok := impl.CountClosedWith(a, b, c)
				fits := min(a, b, c) >= 0 && max(a, b, c) <= 12 && a+b+c >= 1 && a+b+c <= 12
				same(t, ok, fits, "CountClosedWith succeeds", a, b, c)
			}
		}
	}
}
