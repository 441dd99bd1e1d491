package tests

import (
	"slices"
	"strings"
	"testing"

	"loop.example/g01217/impl"
)

// hardened are puzzles with those in which pieces were made gaps, none where there is not just one solution at first.
var hardened = []struct {
	puzzle impl.Puzzle
	harder impl.Puzzle
}{
	// With the last gap, the other side would be a solution, too.
	{puzzle("LLLLLLLL", 0, 0), puzzle("???????L", 0, 7)},
	{puzzle("RRRRRRRR", 0, 0), puzzle("???????R", 0, 7)},
	{puzzle("LLL?????", 0, 5), puzzle("??L?????", 0, 7)},
	{puzzle("???????L", 0, 7), puzzle("???????L", 0, 7)},
	{puzzle("?LLLLLL?", 0, 2), puzzle("??????L?", 0, 7)},
	{puzzle("SLLLLSLLLL", 0, 0), puzzle("??????LLLL", 2, 4)},
	{puzzle("?LLLL?LLLL", 2, 0), puzzle("??????LLLL", 2, 4)},
	{puzzle("LLLL?LLLL?", 2, 0), puzzle("?????LLLL?", 2, 4)},
	{puzzle("??LLLL??LLLL", 4, 0), puzzle("????????LLLL", 4, 4)},
	// There are just as many gaps as there can be, at first or at last.
	{puzzle("SSSRRSSSRRSSSRRSSSRR", 0, 0), puzzle("?????????RSSSRRSSSRR", 6, 3)},
	{puzzle("?????????RSSSRRSSSRR", 6, 3), puzzle("?????????RSSSRRSSSRR", 6, 3)},
	{puzzle("SSSRRSSSRR?????????R", 6, 3), puzzle("SSSRRSSSRR?????????R", 6, 3)},
	{puzzle("SSSRRSSSRR????????RR", 6, 2), puzzle("?SSRRSSSRR????????RR", 7, 2)},
	// The eighth place cannot be a gap, but the ninth can.
	{puzzle(strings.Repeat("L", 40), 0, 0), puzzle("???????L?LLLLLLL?"+strings.Repeat("L", 23), 0, 9)},
	// There is none, or there are several.
	{puzzle("LLLLLLL?", 1, 0), impl.Puzzle{}},
	{puzzle("LLLLLLLR", 0, 0), impl.Puzzle{}},
	{puzzle("S", 0, 0), impl.Puzzle{}},
	{puzzle("????????", 0, 8), impl.Puzzle{}},
	{puzzle("S?????????", 1, 8), impl.Puzzle{}},
	{puzzle("??LLLL??LLLL", 0, 4), impl.Puzzle{}},
	{puzzle("?????????LLL", 0, 9), impl.Puzzle{}},
}

func TestHarderPuzzle(t *testing.T) {
	for _, row := range hardened {
		want := answer[impl.Puzzle]{row.harder, row.harder != impl.Puzzle{}}
		same(t, got(impl.HarderPuzzle(row.puzzle)), want, "HarderPuzzle", row.puzzle)
	}
}

// TestHarderPuzzlesKeepTheirSolution compares the one solution before and behind, and looks whether a gap more is left out for a reason.
func TestHarderPuzzlesKeepTheirSolution(t *testing.T) {
	counts := map[bool]int{}
	for i, p := range somePuzzles() {
		if i%4 != 0 {
			continue
		}
		tracks := sure(impl.Solutions(p))
		harder, ok := impl.HarderPuzzle(p)
		same(t, ok, len(tracks) == 1, "HarderPuzzle succeeds", p)
		counts[ok]++
		if !ok {
			same(t, harder, impl.Puzzle{}, "HarderPuzzle", p)
			continue
		}
		same(t, listed(impl.Solutions(harder)), listed(tracks, true), "Solutions of HarderPuzzle", p)
		same(t, got(impl.HarderPuzzle(harder)), gives(harder), "HarderPuzzle of itself", p)
		for at := range len(p.Track) {
			same(t, harder.Track[at] == '?' || harder.Track[at] == p.Track[at], true, "a gap stays one, and a piece stays the same or becomes one", p, at)
			if wider, ok := impl.OpenGap(harder, at); ok {
				same(t, sure(impl.CountSolutions(wider)) > 1, true, "there are more solutions with one gap more", harder, at)
			}
		}
	}
	if counts[true] < 200 || counts[false] < 100 {
		t.Error("too few puzzles are made harder, or cannot be:", counts)
	}
}

// TestHarderPuzzlesOfModel opens gap by gap.
func TestHarderPuzzlesOfModel(t *testing.T) {
	for i, p := range ringPuzzles() {
		if i%101 == 0 {
			same(t, got(impl.HarderPuzzle(p)), modelHarder(p), "HarderPuzzle", p)
		}
	}
}

// made are rings and seeds with their puzzles. The first numbers are 11213, 16136 and 7969 for the seed 0, 11384, 45377 and 14430 for 1, and 21042, 50020 and 11508 for 9999.
var made = []struct {
	ring string
	seed int
	made impl.Puzzle
}{
	{"LLLLLLLL", 0, puzzle("LLLLL??L", 0, 2)},
	{"LLLLLLLL", 1, puzzle("LL?LLLLL", 0, 1)},
	{"RRRRRRRR", 9999, puzzle("?R?RR?RR", 0, 3)},
	{"SLLLLSLLLL", 0, puzzle("SLLLL??L??", 1, 3)},
	{"SLLLLSLLLL", 1, puzzle("SL?LLSLL?L", 0, 2)},
	{"SLLLLSLLLL", 9999, puzzle("?L?LL?LL?L", 2, 2)},
	// The tenth number that is 0 modulo 3 makes no gap.
	{strings.Repeat("L", 40), 0, puzzle("LLLLL??L??L???LLL?LL?"+strings.Repeat("L", 19), 0, 9)},
}

func TestMakePuzzle(t *testing.T) {
	for _, row := range made {
		same(t, got(impl.MakePuzzle(row.ring, row.seed)), gives(row.made), "MakePuzzle", row.ring, row.seed)
	}
}

// TestMadePuzzlesOfAllSeeds compares them with the model.
func TestMadePuzzlesOfAllSeeds(t *testing.T) {
	long := repeated("S", 16, "L", 4) + repeated("S", 16, "L", 4)
	counts := map[int]int{}
	for seed := 0; seed <= 9999; seed++ {
		same(t, got(impl.MakePuzzle("SLLLLSLLLL", seed)), gives(modelMake("SLLLLSLLLL", seed)), "MakePuzzle", seed)
		if seed%11 == 0 {
			p := got(impl.MakePuzzle(long, seed))
			same(t, p, gives(modelMake(long, seed)), "MakePuzzle", long, seed)
			counts[modelGaps(p.value)]++
		}
		counts[modelGaps(sure(impl.MakePuzzle("LLLLLLLL", seed)))]++
	}
	if counts[0] == 0 || counts[1] == 0 || counts[9] == 0 {
		t.Error("no puzzles have as few or as many gaps as there can be:", counts)
	}
}

// TestMadePuzzlesAreThoseOfTheirRing fills their gaps with it again.
func TestMadePuzzlesAreThoseOfTheirRing(t *testing.T) {
	for i, ring := range someRings() {
		for _, seed := range []int{0, 1, 9998, 9999, i * 7 % 10000} {
			p := sure(impl.MakePuzzle(ring, seed))
			same(t, impl.IsPuzzle(p), true, "MakePuzzle is a puzzle", ring, seed)
			same(t, got(impl.IsSolution(p, ring)), gives(true), "the ring is a solution", p, ring)
			for at := range len(ring) {
				same(t, p.Track[at] == '?' || p.Track[at] == ring[at], true, "a place is a gap or a piece of the ring", ring, seed, at)
			}
			if i%50 == 0 {
				same(t, slices.Contains(sure(impl.Solutions(p)), ring), true, "the ring is among the solutions", p, ring)
				same(t, p, modelMake(ring, seed), "MakePuzzle", ring, seed)
			}
		}
	}
}

func TestMadePuzzlesOfNoRing(t *testing.T) {
	for _, text := range noRings() {
		for _, seed := range []int{0, 1, 9999} {
			same(t, got(impl.MakePuzzle(text, seed)), failsAs[impl.Puzzle](), "MakePuzzle", text[:min(len(text), 60)], seed)
		}
	}
	for _, seed := range append([]int{-2, -1, 10000, 10001, 53125, 53126}, someInts...) {
		_, ok := impl.MakePuzzle("LLLLLLLL", seed)
		same(t, ok, 0 <= seed && seed <= 9999, "MakePuzzle succeeds", seed)
		if !ok {
			same(t, got(impl.MakePuzzle("LLLLLLLL", seed)), failsAs[impl.Puzzle](), "MakePuzzle", seed)
		}
	}
}

func TestMirrorPuzzle(t *testing.T) {
	wanted := map[impl.Puzzle]impl.Puzzle{
		puzzle("?LLLL?LLLL", 2, 0): puzzle("?RRRR?RRRR", 2, 0), puzzle("SLR??", 1, 1): puzzle("SRL??", 1, 1), puzzle("?", 0, 1): puzzle("?", 0, 1),
		puzzle("S", 0, 0): puzzle("S", 0, 0), puzzle("RL?", 0, 1): puzzle("LR?", 0, 1), puzzle("?????????"+strings.Repeat("L", 31), 3, 6): puzzle("?????????"+strings.Repeat("R", 31), 3, 6),
	}
	for p, want := range wanted {
		same(t, got(impl.MirrorPuzzle(p)), gives(want), "MirrorPuzzle", p)
	}
	for _, p := range somePuzzles() {
		mirror := sure(impl.MirrorPuzzle(p))
		same(t, mirror, puzzle(modelMirror(p.Track), p.Straights, p.Curves), "MirrorPuzzle", p)
		same(t, got(impl.MirrorPuzzle(mirror)), gives(p), "MirrorPuzzle twice over", p)
		var tracks []string
		for _, track := range sure(impl.Solutions(p)) {
			tracks = append(tracks, sure(impl.MirrorTrack(track)))
		}
		slices.Sort(tracks)
		same(t, listed(impl.Solutions(mirror)), listed(tracks, true), "Solutions of MirrorPuzzle", p)
	}
}
