package tests

import (
	"fmt"
	"slices"
	"strings"
	"testing"

	"loop.example/g01217/impl"
)

// puzzleCalls are the calls that require a puzzle alone, or with what fits each one that has a gap at its first place.
var puzzleCalls = map[string]func(p impl.Puzzle) answer[string]{
	"GapsOf":                  func(p impl.Puzzle) answer[string] { return printed(impl.GapsOf(p)) },
	"IsSolution of no pieces": func(p impl.Puzzle) answer[string] { return printed(impl.IsSolution(p, "")) },
	"IsSolution of a ring":    func(p impl.Puzzle) answer[string] { return printed(impl.IsSolution(p, "LLLLLLLL")) },
	"Solutions":               func(p impl.Puzzle) answer[string] { return printed(impl.Solutions(p)) },
	"CountSolutions":          func(p impl.Puzzle) answer[string] { return printed(impl.CountSolutions(p)) },
	"MirrorPuzzle":            func(p impl.Puzzle) answer[string] { return printed(impl.MirrorPuzzle(p)) },
	"PuzzleText":              func(p impl.Puzzle) answer[string] { return printed(impl.PuzzleText(p)) },
}

// partPuzzleCalls are the calls that fail for some puzzles, too.
var partPuzzleCalls = map[string]func(p impl.Puzzle) answer[string]{
	"FirstSolution": func(p impl.Puzzle) answer[string] { return printed(impl.FirstSolution(p)) },
	"SurePieces":    func(p impl.Puzzle) answer[string] { return printed(impl.SurePieces(p)) },
	"HintOf":        func(p impl.Puzzle) answer[string] { h := hintOf(p); return printed(h.value, h.ok) },
	"FillGap S":     func(p impl.Puzzle) answer[string] { return printed(impl.FillGap(p, 0, "S")) },
	"FillGap L":     func(p impl.Puzzle) answer[string] { return printed(impl.FillGap(p, 0, "L")) },
	"OpenGap":       func(p impl.Puzzle) answer[string] { return printed(impl.OpenGap(p, 0)) },
	"OpenGap 1":     func(p impl.Puzzle) answer[string] { return printed(impl.OpenGap(p, 1)) },
	"HarderPuzzle":  func(p impl.Puzzle) answer[string] { return printed(impl.HarderPuzzle(p)) },
}

func TestCallsOfNoPuzzle(t *testing.T) {
	for _, p := range noPuzzles() {
		for name, call := range puzzleCalls {
			same(t, call(p), failsAs[string](), name, "of a text of bytes:", len(p.Track), p.Straights, p.Curves)
		}
		for name, call := range partPuzzleCalls {
			same(t, call(p), failsAs[string](), name, "of a text of bytes:", len(p.Track), p.Straights, p.Curves)
		}
		for _, at := range []int{-1, 2, 9, 39, 40, 41} {
			same(t, got(impl.FillGap(p, at, "S")), failsAs[impl.Puzzle](), "FillGap", at)
			same(t, got(impl.OpenGap(p, at)), failsAs[impl.Puzzle](), "OpenGap", at)
		}
	}
}

// TestPuzzlesWithTheRightPiecesAreNone checks that there is no solution for what is no puzzle, though a ring fits it.
func TestPuzzlesWithTheRightPiecesAreNone(t *testing.T) {
	long := strings.Repeat("L", 48)
	for _, p := range []impl.Puzzle{puzzle(long, 0, 0), puzzle("?"+long[1:], 0, 1), puzzle("??????????", 2, 8), puzzle("??????????LL", 4, 6)} {
		for name, call := range puzzleCalls {
			same(t, call(p), failsAs[string](), name, p)
		}
		for name, call := range partPuzzleCalls {
			same(t, call(p), failsAs[string](), name, p)
		}
		same(t, got(impl.IsSolution(p, "SLLLLSLLLL")), failsAs[bool](), "IsSolution", p)
	}
}

func TestSolutionsOfNoTrack(t *testing.T) {
	for _, p := range []impl.Puzzle{puzzle("?LLLL?LLLL", 2, 0), puzzle("S", 0, 0), puzzle("?", 1, 0), puzzle(strings.Repeat("L", 40), 0, 0)} {
		for _, text := range append(noTracks(), "?", p.Track[:len(p.Track)-1]+"?", "SLLLL?LLLL", "?LLLL?LLLL", strings.Repeat("L", 39)+"?") {
			same(t, got(impl.IsSolution(p, text)), failsAs[bool](), "IsSolution", p, text[:min(len(text), 60)])
		}
	}
}

func TestPlacesAndPiecesThatAreNone(t *testing.T) {
	p, full := puzzle("?LLLL?LLLL", 1, 1), puzzle("?????????", 4, 5)
	for _, at := range append([]int{-3, -2, 10, 11, 39, 40, 41}, someInts...) {
		_, filled := impl.FillGap(p, at, "S")
		same(t, filled, at == 0, "FillGap succeeds", p, at)
		_, filled = impl.FillGap(full, at, "S")
		same(t, filled, 0 <= at && at <= 8, "FillGap succeeds", full, at)
		_, opened := impl.OpenGap(p, at)
		same(t, opened, at != 0 && at != 5 && 0 <= at && at <= 9, "OpenGap succeeds", p, at)
		same(t, got(impl.OpenGap(full, at)), failsAs[impl.Puzzle](), "OpenGap", full, at)
	}
	for _, text := range append(wordsUpTo(2, "SLR?"), noTracks()...) {
		if text == "S" || text == "L" || text == "R" {
			continue
		}
		for _, at := range []int{0, 5} {
			same(t, got(impl.FillGap(p, at, text)), failsAs[impl.Puzzle](), "FillGap", p, at, text[:min(len(text), 60)])
		}
	}
}

// TestAnyPuzzlesAreAccepted calls everything with texts of any bytes and with any numbers.
func TestAnyPuzzlesAreAccepted(t *testing.T) {
	next := diceFrom(96)
	numbers := append([]int{3, 4, 5, 6, 9, 10}, someInts...)
	counts := map[bool]int{}
	for range 4000 {
		text := []byte(strings.Repeat("L", next(42)))
		for range next(12) {
			if len(text) > 0 {
				text[next(len(text))] = "SLR???"[next(6)]
			}
		}
		if next(4) == 0 {
			text = slices.Insert(text, next(len(text)+1), byte(next(256)))
		}
		p := puzzle(string(text), numbers[next(len(numbers))], 0)
		p.Curves = modelGaps(p) - p.Straights
		if next(2) == 0 {
			p.Straights = next(modelGaps(p) + 1)
			p.Curves = modelGaps(p) - p.Straights
		}
		is := modelIsPuzzle(p)
		counts[is]++
		same(t, impl.IsPuzzle(p), is, "IsPuzzle", p)
		for name, call := range puzzleCalls {
			same(t, call(p).ok, is, name, "succeeds", p)
		}
		for name, call := range partPuzzleCalls {
			same(t, !call(p).ok || is, true, name, "fails", p)
		}
		s := string(text) + ":0:" + fmt.Sprint(p.Curves)
		same(t, got(impl.ParsePuzzle(s)), modelParsePuzzle(s), "ParsePuzzle", s)
		same(t, got(impl.IsSolution(p, string(text))), answer[bool]{is && modelGaps(p) == 0 && modelIsClosed(p.Track), is && modelGaps(p) == 0}, "IsSolution", p)
	}
	if counts[true] < 1000 || counts[false] < 1000 {
		t.Error("too few are puzzles, or are none:", counts)
	}
}

// TestTextsOfPuzzlesAreNew checks that results share no memory with what was given.
func TestTextsOfPuzzlesAreNew(t *testing.T) {
	isNew := func(result string, given string, call ...any) {
		t.Helper()
		// One byte is in the memory that the runtime keeps for all bytes.
		if len(result) > 1 && shareMemory(result, given) {
			t.Error(call, "shares memory with", given)
		}
	}
	for _, p := range append(ringPuzzles()[:300], longPuzzles()...) {
		text := modelPuzzleText(p)
		read := sure(impl.ParsePuzzle(text))
		isNew(read.Track, text, "ParsePuzzle", text)
		isNew(sure(impl.PuzzleText(p)), p.Track, "PuzzleText", p)
		isNew(sure(impl.MirrorPuzzle(p)).Track, p.Track, "MirrorPuzzle", p)
		harder, _ := impl.HarderPuzzle(p)
		isNew(harder.Track, p.Track, "HarderPuzzle", p)
		again, _ := impl.HarderPuzzle(harder)
		isNew(again.Track, harder.Track, "HarderPuzzle", harder)
		first, _ := impl.FirstSolution(p)
		isNew(first, p.Track, "FirstSolution", p)
		pieces, _ := impl.SurePieces(p)
		isNew(pieces, p.Track, "SurePieces", p)
		for _, track := range sure(impl.Solutions(p)) {
			isNew(track, p.Track, "Solutions", p)
		}
		for at := range len(p.Track) {
			filled, _ := impl.FillGap(p, at, "L")
			isNew(filled.Track, p.Track, "FillGap", p, at)
			opened, _ := impl.OpenGap(p, at)
			isNew(opened.Track, p.Track, "OpenGap", p, at)
		}
	}
	for seed := range 300 {
		for _, ring := range []string{"LLLLLLLL", "SLLLLSLLLL"} {
			isNew(sure(impl.MakePuzzle(ring, seed)).Track, ring, "MakePuzzle", ring, seed)
		}
	}
}

// TestListsOfSolutionsAreNew writes to what Solutions returns, and to the room behind it: this does not change what is returned next, nor what was returned before.
func TestListsOfSolutionsAreNew(t *testing.T) {
	for _, p := range append(ringPuzzles()[:300], longPuzzles()...) {
		first, second := sure(impl.Solutions(p)), sure(impl.Solutions(p))
		want := listed(slices.Clone(first), true)
		for i := range first[:cap(first)] {
			first[:cap(first)][i] = "X"
		}
		same(t, listed(second, true), want, "solutions beside them", p)
		same(t, listed(impl.Solutions(p)), want, "Solutions again", p)
		same(t, got(impl.CountSolutions(p)), gives(len(first)), "CountSolutions again", p)
	}
}

// TestPuzzleCallsAreRepeated checks that a call leaves nothing behind for the next one.
func TestPuzzleCallsAreRepeated(t *testing.T) {
	puzzles := append(append(ringPuzzles()[:200], longPuzzles()...), noPuzzles()[:20]...)
	all := func() string {
		var results []string
		for _, p := range puzzles {
			for name, call := range puzzleCalls {
				results = append(results, fmt.Sprint(p, name, call(p)))
			}
			for name, call := range partPuzzleCalls {
				results = append(results, fmt.Sprint(p, name, call(p)))
			}
			results = append(results, fmt.Sprint(got(impl.MakePuzzle("SLLLLSLLLL", len(p.Track)))))
		}
		slices.Sort(results)
		return strings.Join(results, "\n")
	}
	first := all()
	for range 2 {
		same(t, all() == first, true, "all calls again give the same")
	}
}
