package tests

import (
	"strings"
	"testing"

	"loop.example/g01217/impl"
)

// TestExampleOfPuzzles is the chapter's example.
func TestExampleOfPuzzles(t *testing.T) {
	p := puzzle("?LLLL?LLLL", 2, 0)
	same(t, listed(impl.Solutions(p)), gives("SLLLLSLLLL"), "Solutions", p)
	same(t, hintOf(p), gives(hint{0, "S"}), "HintOf", p)
	same(t, got(impl.CountSolutions(puzzle("LLLLLLL?", 1, 0))), gives(0), "CountSolutions of LLLLLLL?:1:0")
	same(t, got(impl.CountSolutions(puzzle("LLLLLLL?", 0, 1))), gives(1), "CountSolutions of LLLLLLL?:0:1")
	same(t, impl.MaxGaps, 9, "MaxGaps")
	same(t, impl.MaxSolutions, 400, "MaxSolutions")
}

func TestIsPuzzle(t *testing.T) {
	wanted := map[impl.Puzzle]bool{
		puzzle("S", 0, 0): true, puzzle("?", 1, 0): true, puzzle("?", 0, 1): true, puzzle("LLLLLLLL", 0, 0): true, puzzle("SR?L", 0, 1): true,
		puzzle("?????????", 9, 0): true, puzzle("?????????", 0, 9): true, puzzle("?????????", 4, 5): true, puzzle("S?????????", 5, 4): true,
		puzzle(strings.Repeat("S", 40), 0, 0): true, puzzle(strings.Repeat("L", 31)+"?????????", 2, 7): true, puzzle(strings.Repeat("R", 39)+"?", 0, 1): true,
		puzzle("", 0, 0): false, puzzle("SX", 0, 0): false, puzzle("S?l", 0, 1): false, puzzle("??????????", 5, 5): false, puzzle(strings.Repeat("S", 41), 0, 0): false,
		puzzle("?", 0, 0): false, puzzle("?", 1, 1): false, puzzle("?", -1, 2): false, puzzle("?", 2, -1): false, puzzle("S", 1, 0): false, puzzle("S", 1, -1): false,
	}
	for p, want := range wanted {
		same(t, impl.IsPuzzle(p), want, "IsPuzzle", p)
	}
	for _, p := range somePuzzles() {
		same(t, impl.IsPuzzle(p), true, "IsPuzzle", p)
	}
	for _, p := range noPuzzles() {
		same(t, impl.IsPuzzle(p), false, "IsPuzzle of a text of bytes:", len(p.Track), p.Straights, p.Curves)
	}
	for gaps := 0; gaps <= 11; gaps++ {
		for straights := -2; straights <= 12; straights++ {
			for curves := -2; curves <= 12; curves++ {
				p := puzzle("S"+strings.Repeat("?", gaps), straights, curves)
				same(t, impl.IsPuzzle(p), modelIsPuzzle(p), "IsPuzzle", p)
			}
		}
	}
}

func TestGapsOf(t *testing.T) {
	wanted := map[impl.Puzzle]int{
		puzzle("SLR", 0, 0): 0, puzzle("?", 0, 1): 1, puzzle("?S?", 2, 0): 2, puzzle("?????????", 3, 6): 9, puzzle("?LLLL?LLLL", 1, 1): 2,
		puzzle(strings.Repeat("L", 31)+"?????????", 0, 9): 9, puzzle(strings.Repeat("?SSS", 9)+"RRRR", 9, 0): 9,
	}
	for p, want := range wanted {
		same(t, got(impl.GapsOf(p)), gives(want), "GapsOf", p)
	}
	for _, p := range somePuzzles() {
		same(t, got(impl.GapsOf(p)), gives(modelGaps(p)), "GapsOf", p)
	}
}

func TestIsSolution(t *testing.T) {
	p := puzzle("?LLLL?LLLL", 2, 0)
	no := []string{
		// A ring, and tracks that are none, with the told pieces at the gaps or others; the last ones are shorter or longer.
		"SRRRRSRRRR", "LLLLSLLLLS", "LLLLLLLLLL", "SLLLLLLLLL", "LLLLLSLLLL", "SLLLLRLLLL", "RLLLLRLLLL", "SLLLLSLLLR", "SLLLLSLLLS", "RLLLLSLLLL",
		"", "S", "SLLLLSLLL", "SLLLLSLLLLS", "LLLLLLLL", "SLLLLSLLLLLLLLLLLL", "SSLLLLSSLLLL", strings.Repeat("SLLLLSLLLL", 4),
	}
	same(t, got(impl.IsSolution(p, "SLLLLSLLLL")), gives(true), "IsSolution", p)
	for _, track := range no {
		same(t, got(impl.IsSolution(p, track)), gives(false), "IsSolution", p, track)
	}
	wanted := map[impl.Puzzle]map[string]bool{
		puzzle("LLLLLLLL", 0, 0):     {"LLLLLLLL": true, "RRRRRRRR": false, "LLLLLLLR": false},
		puzzle("SLLLLLLL", 0, 0):     {"SLLLLLLL": false, "LLLLLLLL": false},
		puzzle("????????", 0, 8):     {"LLLLLLLL": true, "RRRRRRRR": true, "LLLLRRRR": false, "SSSSSSSS": false},
		puzzle("????????", 1, 7):     {"LLLLLLLL": false, "SLLLLLLL": false, "RRRRRRRR": false},
		puzzle("S?????????", 1, 8):   {"SLLLLSLLLL": true, "SRRRRSRRRR": true, "LLLLSLLLLS": false, "SLLLSLLLLL": false},
		puzzle("?LLLL?LLLL", 1, 1):   {"SLLLLSLLLL": false, "SLLLLLLLLL": false},
		puzzle("?LLLL?LLLL", 0, 2):   {"SLLLLSLLLL": false, "LLLLLLLLLL": false},
		puzzle("?????????LLL", 0, 9): {"LLRLLLLLRLLL": true, "RLLLLLRLLLLL": true, "LLLLLRLLLLLR": false, "LLLLSSLLLLSS": false},
		puzzle(strings.Repeat("L", 31)+"?????????", 0, 9): {
			strings.Repeat("L", 40): true, strings.Repeat("L", 39): false, strings.Repeat("L", 39) + "R": false, strings.Repeat("L", 32): false, strings.Repeat("R", 40): false,
		},
	}
	for p, tracks := range wanted {
		for track, want := range tracks {
			same(t, got(impl.IsSolution(p, track)), gives(want), "IsSolution", p, track)
		}
	}
}

// TestSolutionsFitAndClose compares IsSolution with a model: of puzzles of rings, for all rings that are as long and for those with a piece changed.
func TestSolutionsFitAndClose(t *testing.T) {
	next := diceFrom(94)
	counts := map[bool]int{}
	for _, p := range ringPuzzles() {
		for _, ring := range modelClosed()[len(p.Track)] {
			at := next(len(ring))
			changed := ring[:at] + "LRS"[next(3):][:1] + ring[at+1:]
			for _, track := range []string{ring, changed} {
				want := modelFits(p, track) && modelIsClosed(track)
				same(t, got(impl.IsSolution(p, track)), gives(want), "IsSolution", p, track)
				counts[want]++
			}
		}
	}
	if counts[true] < 1000 || counts[false] < 1000 {
		t.Error("too few tracks are solutions, or are none:", counts)
	}
}

// filledGaps are puzzles, places and pieces with the puzzle behind them, none where they fail.
var filledGaps = []struct {
	puzzle impl.Puzzle
	at     int
	piece  string
	filled impl.Puzzle
}{
	{puzzle("?LLLL?LLLL", 2, 0), 0, "S", puzzle("SLLLL?LLLL", 1, 0)},
	{puzzle("?LLLL?LLLL", 2, 0), 5, "S", puzzle("?LLLLSLLLL", 1, 0)},
	{puzzle("SLLLL?LLLL", 1, 0), 5, "S", puzzle("SLLLLSLLLL", 0, 0)},
	{puzzle("?LLLL?LLLL", 1, 1), 0, "S", puzzle("SLLLL?LLLL", 0, 1)},
	{puzzle("?LLLL?LLLL", 1, 1), 0, "L", puzzle("LLLLL?LLLL", 1, 0)},
	{puzzle("?LLLL?LLLL", 1, 1), 0, "R", puzzle("RLLLL?LLLL", 1, 0)},
	{puzzle("?LLLL?LLLL", 0, 2), 5, "R", puzzle("?LLLLRLLLL", 0, 1)},
	{puzzle("?", 1, 0), 0, "S", puzzle("S", 0, 0)},
	{puzzle("?", 0, 1), 0, "R", puzzle("R", 0, 0)},
	{puzzle(strings.Repeat("S", 39)+"?", 0, 1), 39, "L", puzzle(strings.Repeat("S", 39)+"L", 0, 0)},
	{puzzle("?????????", 9, 0), 8, "S", puzzle("????????S", 8, 0)},
	// There is no such piece left.
	{puzzle("?LLLL?LLLL", 2, 0), 0, "L", impl.Puzzle{}},
	{puzzle("?LLLL?LLLL", 2, 0), 5, "R", impl.Puzzle{}},
	{puzzle("?LLLL?LLLL", 0, 2), 0, "S", impl.Puzzle{}},
	{puzzle("?", 1, 0), 0, "R", impl.Puzzle{}},
	{puzzle("?", 0, 1), 0, "S", impl.Puzzle{}},
	// There is no gap.
	{puzzle("?LLLL?LLLL", 1, 1), 1, "L", impl.Puzzle{}},
	{puzzle("?LLLL?LLLL", 1, 1), 9, "S", impl.Puzzle{}},
	{puzzle("?LLLL?LLLL", 1, 1), 4, "R", impl.Puzzle{}},
	{puzzle("SLLLLSLLLL", 0, 0), 0, "S", impl.Puzzle{}},
	// There is no such place.
	{puzzle("?LLLL?LLLL", 1, 1), -1, "S", impl.Puzzle{}},
	{puzzle("?LLLL?LLLL", 1, 1), -10, "S", impl.Puzzle{}},
	{puzzle("?LLLL?LLLL", 1, 1), 10, "S", impl.Puzzle{}},
	{puzzle("?", 1, 0), 1, "S", impl.Puzzle{}},
	// There is no such piece at all.
	{puzzle("?LLLL?LLLL", 1, 1), 0, "", impl.Puzzle{}},
	{puzzle("?LLLL?LLLL", 1, 1), 0, "?", impl.Puzzle{}},
	{puzzle("?LLLL?LLLL", 1, 1), 0, "s", impl.Puzzle{}},
	{puzzle("?LLLL?LLLL", 1, 1), 0, "SL", impl.Puzzle{}},
	{puzzle("??", 1, 1), 0, "SL", impl.Puzzle{}},
}

func TestFillGap(t *testing.T) {
	for _, row := range filledGaps {
		want := answer[impl.Puzzle]{row.filled, row.filled != impl.Puzzle{}}
		same(t, got(impl.FillGap(row.puzzle, row.at, row.piece)), want, "FillGap", row.puzzle, row.at, row.piece)
	}
}

// TestFilledGapsAreOpenedAgain fills each gap with each piece, and opens each place.
func TestFilledGapsAreOpenedAgain(t *testing.T) {
	for _, p := range somePuzzles() {
		for at := -1; at <= len(p.Track); at++ {
			isPlace := 0 <= at && at < len(p.Track)
			isGap := isPlace && p.Track[at] == '?'
			for _, piece := range []string{"S", "L", "R"} {
				_, has := modelTake(box(p.Straights, p.Curves), rune(piece[0]))
				filled := got(impl.FillGap(p, at, piece))
				same(t, filled.ok, isGap && has, "FillGap succeeds", p, at, piece)
				if filled.ok {
					same(t, filled.value.Track, p.Track[:at]+piece+p.Track[at+1:], "the track of FillGap", p, at, piece)
					same(t, impl.IsPuzzle(filled.value), true, "FillGap is a puzzle", p, at, piece)
					same(t, got(impl.OpenGap(filled.value, at)), gives(p), "OpenGap of FillGap", p, at, piece)
				} else {
					same(t, filled, failsAs[impl.Puzzle](), "FillGap", p, at, piece)
				}
			}
			opened := orNone(isPlace && !isGap && modelGaps(p) < 9, func() answer[impl.Puzzle] { return gives(modelOpen(p, at)) })
			same(t, got(impl.OpenGap(p, at)), opened, "OpenGap", p, at)
			if opened.ok {
				same(t, got(impl.FillGap(opened.value, at, p.Track[at:at+1])), gives(p), "FillGap of OpenGap", p, at)
			}
		}
	}
}

// openedGaps are puzzles and places with the puzzle behind them, none where they fail.
var openedGaps = []struct {
	puzzle impl.Puzzle
	at     int
	opened impl.Puzzle
}{
	{puzzle("SLLLLSLLLL", 0, 0), 0, puzzle("?LLLLSLLLL", 1, 0)},
	{puzzle("SLLLLSLLLL", 0, 0), 1, puzzle("S?LLLSLLLL", 0, 1)},
	{puzzle("SLR", 0, 0), 2, puzzle("SL?", 0, 1)},
	{puzzle("?LLLLSLLLL", 1, 0), 5, puzzle("?LLLL?LLLL", 2, 0)},
	{puzzle("?LLLLSLLLL", 0, 1), 5, puzzle("?LLLL?LLLL", 1, 1)},
	{puzzle("?LLLLSLLLL", 0, 1), 9, puzzle("?LLLLSLLL?", 0, 2)},
	{puzzle("S????????", 3, 5), 0, puzzle("?????????", 4, 5)},
	{puzzle("????????R", 3, 5), 8, puzzle("?????????", 3, 6)},
	{puzzle(strings.Repeat("L", 40), 0, 0), 39, puzzle(strings.Repeat("L", 39)+"?", 0, 1)},
	// There is a gap, there is no such place, and there would be too many gaps.
	{puzzle("?LLLLSLLLL", 1, 0), 0, impl.Puzzle{}},
	{puzzle("?LLLL?LLLL", 1, 1), 5, impl.Puzzle{}},
	{puzzle("?", 1, 0), 0, impl.Puzzle{}},
	{puzzle("SLLLLSLLLL", 0, 0), -1, impl.Puzzle{}},
	{puzzle("SLLLLSLLLL", 0, 0), 10, impl.Puzzle{}},
	{puzzle("S", 0, 0), 1, impl.Puzzle{}},
	{puzzle("S?????????", 9, 0), 0, impl.Puzzle{}},
	{puzzle("?????????L", 4, 5), 9, impl.Puzzle{}},
	{puzzle("?????????", 4, 5), 8, impl.Puzzle{}},
}

func TestOpenGap(t *testing.T) {
	for _, row := range openedGaps {
		want := answer[impl.Puzzle]{row.opened, row.opened != impl.Puzzle{}}
		same(t, got(impl.OpenGap(row.puzzle, row.at)), want, "OpenGap", row.puzzle, row.at)
	}
}
