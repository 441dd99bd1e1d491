package tests

import (
	"slices"
	"strings"
	"testing"

	"loop.example/g01217/impl"
)

// solved are puzzles with all their solutions, the pieces that these agree on, and the first gap with one of them, "-" where there is none.
var solved = []struct {
	puzzle impl.Puzzle
	tracks string
	sure   string
	at     int
	piece  string
}{
	{puzzle("?LLLL?LLLL", 2, 0), "SLLLLSLLLL", "SLLLLSLLLL", 0, "S"},
	{puzzle("LLLL?LLLL?", 2, 0), "LLLLSLLLLS", "LLLLSLLLLS", 4, "S"},
	{puzzle("LLLLLLL?", 0, 1), "LLLLLLLL", "LLLLLLLL", 7, "L"},
	{puzzle("RRRRRRR?", 0, 1), "RRRRRRRR", "RRRRRRRR", 7, "R"},
	{puzzle("LLL?????", 0, 5), "LLLLLLLL", "LLLLLLLL", 3, "L"},
	{puzzle("??????LLLL", 2, 4), "SLLLLSLLLL", "SLLLLSLLLL", 0, "S"},
	{puzzle("??LLLL??LLLL", 4, 0), "SSLLLLSSLLLL", "SSLLLLSSLLLL", 0, "S"},
	{puzzle("LL?LL?LL?LL?", 4, 0), "LLSLLSLLSLLS", "LLSLLSLLSLLS", 2, "S"},
	// Without gaps nothing can be told, though all is sure.
	{puzzle("LLLLLLLL", 0, 0), "LLLLLLLL", "LLLLLLLL", 0, "-"},
	{puzzle("SLLLLSLLLL", 0, 0), "SLLLLSLLLL", "SLLLLSLLLL", 0, "-"},
	// All eight curves lead to one side.
	{puzzle("????????", 0, 8), "LLLLLLLL RRRRRRRR", "????????", 0, "-"},
	{puzzle("?????????", 1, 8), "", "-", 0, "-"},
	{puzzle("S?????????", 1, 8), "SLLLLSLLLL SRRRRSRRRR", "S????S????", 5, "S"},
	{puzzle("?????????L", 2, 7), "LLLSLLLLSL LLSLLLLSLL LSLLLLSLLL SLLLLSLLLL", "????L????L", 4, "L"},
	{puzzle("??LLLL??LLLL", 0, 4), "LRLLLLLRLLLL RLLLLLRLLLLL", "??LLLL??LLLL", 0, "-"},
	{puzzle("?????????LLL", 0, 9), "LLRLLLLLRLLL LRLLLLLRLLLL RLLLLLRLLLLL", "???LLL???LLL", 3, "L"},
	// There is no solution.
	{puzzle("LLLLLLL?", 1, 0), "", "-", 0, "-"},
	{puzzle("LLLLLLLR", 0, 0), "", "-", 0, "-"},
	{puzzle("?LLLL?LLLL", 1, 1), "", "-", 0, "-"},
	{puzzle("?LLLL?LLLL", 0, 2), "", "-", 0, "-"},
	{puzzle("?????????", 0, 9), "", "-", 0, "-"},
	{puzzle("?????????", 9, 0), "", "-", 0, "-"},
	{puzzle("S", 0, 0), "", "-", 0, "-"},
	{puzzle("?", 0, 1), "", "-", 0, "-"},
	{puzzle(strings.Repeat("S", 40), 0, 0), "", "-", 0, "-"},
	// Five times around.
	{puzzle(strings.Repeat("L", 39)+"?", 0, 1), strings.Repeat("L", 40), strings.Repeat("L", 40), 39, "L"},
	{puzzle("?"+strings.Repeat("R", 39), 0, 1), strings.Repeat("R", 40), strings.Repeat("R", 40), 0, "R"},
}

func TestSolutions(t *testing.T) {
	for _, row := range solved {
		tracks := strings.Fields(row.tracks)
		same(t, listed(impl.Solutions(row.puzzle)), gives(row.tracks), "Solutions", row.puzzle)
		same(t, got(impl.CountSolutions(row.puzzle)), gives(len(tracks)), "CountSolutions", row.puzzle)
		first := orNone(len(tracks) > 0, func() answer[string] { return gives(tracks[0]) })
		same(t, got(impl.FirstSolution(row.puzzle)), first, "FirstSolution", row.puzzle)
		sure := orNone(row.sure != "-", func() answer[string] { return gives(row.sure) })
		same(t, got(impl.SurePieces(row.puzzle)), sure, "SurePieces", row.puzzle)
		told := orNone(row.piece != "-", func() answer[hint] { return gives(hint{row.at, row.piece}) })
		same(t, hintOf(row.puzzle), told, "HintOf", row.puzzle)
	}
}

// checkSolutions compares all that asks for solutions with these.
func checkSolutions(t *testing.T, p impl.Puzzle, tracks []string) {
	t.Helper()
	same(t, listed(impl.Solutions(p)), listed(tracks, true), "Solutions", p)
	same(t, got(impl.CountSolutions(p)), gives(len(tracks)), "CountSolutions", p)
	first := orNone(len(tracks) > 0, func() answer[string] { return gives(tracks[0]) })
	same(t, got(impl.FirstSolution(p)), first, "FirstSolution", p)
	same(t, got(impl.SurePieces(p)), modelSure(tracks), "SurePieces", p)
	same(t, hintOf(p), modelHint(p, tracks), "HintOf", p)
	for _, track := range tracks {
		same(t, got(impl.IsSolution(p, track)), gives(true), "IsSolution", p, track)
	}
}

// TestSolutionsAmongAllRings takes them out of all rings of as many pieces.
func TestSolutionsAmongAllRings(t *testing.T) {
	counts := map[int]int{}
	for _, p := range append(ringPuzzles(), wordPuzzles(5, 5)...) {
		var tracks []string
		for _, ring := range modelClosed()[len(p.Track)] {
			if modelFits(p, ring) {
				tracks = append(tracks, ring)
			}
		}
		checkSolutions(t, p, tracks)
		counts[min(len(tracks), 3)]++
	}
	for many := 0; many <= 3; many++ {
		if counts[many] < 20 {
			t.Error("too few puzzles have", many, "solutions:", counts)
		}
	}
}

// TestSolutionsOfEightPlaces asks for the two shortest rings in all texts with at least six gaps.
func TestSolutionsOfEightPlaces(t *testing.T) {
	for _, word := range wordsUpTo(8, "?LRS") {
		p := puzzle(word, 0, 0)
		gaps := modelGaps(p)
		if len(word) != 8 || gaps < 6 {
			continue
		}
		for _, b := range boxesOf(gaps) {
			p := puzzle(word, b.Straights, b.Curves)
			var tracks []string
			for _, ring := range []string{"LLLLLLLL", "RRRRRRRR"} {
				if b.Straights == 0 && strings.Trim(word, "?"+ring[:1]) == "" {
					tracks = append(tracks, ring)
				}
			}
			checkSolutions(t, p, tracks)
		}
	}
}

// TestSolutionsOfLongPuzzles puts all pieces into all gaps.
func TestSolutionsOfLongPuzzles(t *testing.T) {
	most := 0
	for _, p := range longPuzzles() {
		tracks := modelSolutions(p)
		checkSolutions(t, p, tracks)
		most = max(most, len(tracks))
	}
	same(t, most, 52, "the most solutions of them")
}

// TestSolutionsOfManyGaps has nine gaps at any places of long rings, with all numbers of pieces: the solutions for these are those of the closed tracks among all fillings.
func TestSolutionsOfManyGaps(t *testing.T) {
	next := diceFrom(95)
	rings := longClosed()
	for range 12 {
		ring := rings[next(len(rings))]
		p := puzzle(ring, 0, 0)
		for modelGaps(p) < 9 {
			if at := next(len(ring)); p.Track[at] != '?' {
				p = modelOpen(p, at)
			}
		}
		tracks := modelSolutions(p)
		same(t, slices.Contains(tracks, ring), true, "the ring is a solution", p, ring)
		checkSolutions(t, p, tracks)
	}
}

// TestSolutionsOfChangedPuzzles checks what a gap that is filled or opened makes of the solutions.
func TestSolutionsOfChangedPuzzles(t *testing.T) {
	for i, p := range ringPuzzles() {
		if i%5 != 0 {
			continue
		}
		tracks := sure(impl.Solutions(p))
		for at := range len(p.Track) {
			if opened, ok := impl.OpenGap(p, at); ok {
				wider := sure(impl.Solutions(opened))
				for _, track := range tracks {
					same(t, slices.Contains(wider, track), true, "a solution is left", p, at, track)
				}
			}
			if p.Track[at] != '?' {
				continue
			}
			var together []string
			for _, piece := range []string{"L", "R", "S"} {
				if filled, ok := impl.FillGap(p, at, piece); ok {
					together = append(together, sure(impl.Solutions(filled))...)
				}
			}
			slices.Sort(together)
			same(t, listed(together, true), listed(tracks, true), "solutions with each piece at a gap", p, at)
		}
	}
}
