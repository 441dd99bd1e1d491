package tests

import (
	"slices"
	"strings"
	"testing"

	"loop.example/g01217/impl"
)

func TestMostMoving(t *testing.T) {
	// For 1, 2, .., 24 blocks.
	wanted := [3][]int{
		{0, 1, 1, 2, 2, 3, 3, 4, 4, 5, 5, 6, 6, 7, 7, 8, 8, 9, 9, 10, 10, 11, 11, 12},
		{0, 1, 1, 1, 1, 2, 2, 2, 3, 3, 3, 4, 4, 4, 5, 5, 5, 6, 6, 6, 7, 7, 7, 8},
		{0, 1, 1, 1, 1, 1, 1, 2, 2, 2, 2, 3, 3, 3, 3, 4, 4, 4, 4, 5, 5, 5, 5, 6},
	}
	for _, gap := range allGaps {
		for n := 1; n <= 24; n++ {
			same(t, got(impl.MostMoving(n, gap)), gives(wanted[gap-1][n-1]), "MostMoving", n, gap)
		}
	}
}

// TestMostMovingOfAllLines looks for the most trains among all lines of few blocks.
func TestMostMovingOfAllLines(t *testing.T) {
	for n := 1; n <= 12; n++ {
		for _, gap := range allGaps {
			most := 0
			for _, line := range linesOfBlocks(n) {
				if modelIsAllGreen(line, gap) {
					most = max(most, strings.Count(line, "T"))
				}
			}
			same(t, got(impl.MostMoving(n, gap)), gives(most), "MostMoving", n, gap)
		}
	}
}

// TestMostMovingCanMove spreads as many trains as can move, and one more.
func TestMostMovingCanMove(t *testing.T) {
	for n := 1; n <= 24; n++ {
		for _, gap := range allGaps {
			most := sure(impl.MostMoving(n, gap))
			spread := sure(impl.SpreadTrains(n, most))
			same(t, strings.Contains(sure(impl.SignalsOf(spread, gap)), "r"), false, "a red signal", spread, gap)
			more := sure(impl.SpreadTrains(n, most+1))
			same(t, strings.Contains(sure(impl.SignalsOf(more, gap)), "r"), true, "a red signal", more, gap)
			if n <= 10 {
				same(t, sure(impl.CountLinesWith(n, most, gap)) > 0, true, "CountLinesWith the most trains", n, gap)
				same(t, got(impl.CountLinesWith(n, most+1, gap)), gives(0), "CountLinesWith one train more", n, gap)
			}
		}
	}
}

func TestSpreadTrains(t *testing.T) {
	wanted := map[[2]int]string{
		{1, 0}: ".", {1, 1}: "T", {2, 0}: "..", {2, 1}: "T.", {2, 2}: "TT", {3, 2}: "TT.", {4, 2}: "T.T.", {4, 3}: "TTT.", {5, 2}: "T.T..", {5, 3}: "TT.T.",
		{7, 7}: "TTTTTTT", {8, 3}: "T.T..T..", {10, 4}: "T.T..T.T..", {24, 0}: strings.Repeat(".", 24), {24, 24}: strings.Repeat("T", 24),
		{24, 5}: "T...T....T....T....T....", {24, 8}: strings.Repeat("T..", 8), {24, 23}: strings.Repeat("T", 23) + ".", {23, 1}: "T" + strings.Repeat(".", 22),
	}
	for told, line := range wanted {
		same(t, got(impl.SpreadTrains(told[0], told[1])), gives(line), "SpreadTrains", told)
	}
}

// TestSpreadTrainsAreInToldBlocks tells the block of each train: b is k n / trains, rounded down, if b trains is k n at most, and (b + 1) trains more.
func TestSpreadTrainsAreInToldBlocks(t *testing.T) {
	for n := 1; n <= 24; n++ {
		for trains := range n + 1 {
			line := sure(impl.SpreadTrains(n, trains))
			same(t, impl.IsLine(line) && len(line) == n, true, "a line of n blocks", line, n)
			places := modelPlaces(line)
			same(t, len(places), trains, "the trains of SpreadTrains", n, trains)
			for k, b := range places {
				same(t, b*trains <= k*n && k*n < (b+1)*trains, true, "the block of a train", n, trains, k, b)
			}
		}
	}
}

func TestCountLinesWith(t *testing.T) {
	// By blocks and trains, for the gaps 1, 2 and 3.
	wanted := map[[2]int][3]int{
		{1, 0}: {1, 1, 1}, {1, 1}: {0, 0, 0}, {2, 0}: {1, 1, 1}, {2, 1}: {2, 2, 2}, {2, 2}: {0, 0, 0}, {3, 1}: {3, 3, 3}, {3, 2}: {0, 0, 0}, {3, 3}: {0, 0, 0},
		{4, 1}: {4, 4, 4}, {4, 2}: {2, 0, 0}, {4, 3}: {0, 0, 0}, {5, 2}: {5, 0, 0}, {6, 2}: {9, 3, 0}, {6, 3}: {2, 0, 0}, {7, 2}: {14, 7, 0}, {8, 2}: {20, 12, 4}, {8, 4}: {2, 0, 0},
		{9, 3}: {30, 3, 0}, {10, 0}: {1, 1, 1}, {10, 1}: {10, 10, 10}, {10, 2}: {35, 25, 15}, {10, 3}: {50, 10, 0}, {10, 5}: {2, 0, 0}, {10, 6}: {0, 0, 0}, {10, 10}: {0, 0, 0},
	}
	for told, counts := range wanted {
		for _, gap := range allGaps {
			same(t, got(impl.CountLinesWith(told[0], told[1], gap)), gives(counts[gap-1]), "CountLinesWith", told, gap)
		}
	}
}

func TestCountLinesWithOfAllLines(t *testing.T) {
	for n := 1; n <= 10; n++ {
		lines := linesOfBlocks(n)
		for _, gap := range allGaps {
			counts := make([]int, n+1)
			for _, line := range lines {
				if modelIsAllGreen(line, gap) {
					counts[strings.Count(line, "T")]++
				}
			}
			for trains, count := range counts {
				same(t, got(impl.CountLinesWith(n, trains, gap)), gives(count), "CountLinesWith", n, trains, gap)
			}
		}
	}
}

func TestNumbersOfBlocksAndTrains(t *testing.T) {
	numbers := append(slices.Clone(someInts), 3, 9, 10, 11, 23, 24, 25, 1<<32+3, 1<<32+10)
	for _, n := range numbers {
		for _, gap := range append([]int{1, 2, 3}, noGaps()...) {
			valid := 1 <= n && n <= 24 && 1 <= gap && gap <= 3
			answer := got(impl.MostMoving(n, gap))
			same(t, answer.ok, valid, "MostMoving succeeds", n, gap)
			same(t, valid || answer.value == 0, true, "MostMoving is 0 where it fails", n, gap)
		}
		for _, trains := range append(numbers, n-1, n, n+1) {
			valid := 1 <= n && n <= 24 && 0 <= trains && trains <= n
			spread := got(impl.SpreadTrains(n, trains))
			same(t, spread.ok, valid, "SpreadTrains succeeds", n, trains)
			same(t, valid || spread.value == "", true, "SpreadTrains is empty where it fails", n, trains)
			for _, gap := range []int{-1, 0, 1, 3, 4, 1<<32 + 1} {
				fine := valid && n <= 10 && 1 <= gap && gap <= 3
				count := got(impl.CountLinesWith(n, trains, gap))
				same(t, count.ok, fine, "CountLinesWith succeeds", n, trains, gap)
				same(t, fine || count.value == 0, true, "CountLinesWith is 0 where it fails", n, trains, gap)
			}
		}
	}
}
