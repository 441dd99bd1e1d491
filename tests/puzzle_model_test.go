package tests

import (
	"math"
	"math/big"
	"regexp"
	"strings"

	"loop.example/g01217/impl"
)

// The model puts each piece into each gap, and asks then whether the track is closed and has the told pieces, so that the program can be compared with it.

func puzzle(track string, straights, curves int) impl.Puzzle {
	return impl.Puzzle{Track: track, Straights: straights, Curves: curves}
}

var likePuzzles = regexp.MustCompile(`^[SLR?]{1,40}$`)

func modelIsPuzzle(p impl.Puzzle) bool {
	if !likePuzzles.MatchString(p.Track) {
		return false
	}
	for _, b := range boxesOf(min(modelGaps(p), 10)) {
		if b == box(p.Straights, p.Curves) {
			return modelGaps(p) < 10
		}
	}
	return false
}

func modelGaps(p impl.Puzzle) int {
	gaps := 0
	for _, letter := range p.Track {
		if letter == '?' {
			gaps++
		}
	}
	return gaps
}

// modelFits tells whether a track has the pieces of a puzzle, and the told ones at its gaps, without asking whether it is a ring.
func modelFits(p impl.Puzzle, track string) bool {
	if len(track) != len(p.Track) {
		return false
	}
	inGaps := ""
	for at := range len(track) {
		if p.Track[at] == '?' {
			inGaps += track[at : at+1]
		} else if p.Track[at] != track[at] {
			return false
		}
	}
	return modelUses(inGaps) == box(p.Straights, p.Curves)
}

// modelSolutions are all solutions, in order.
func modelSolutions(p impl.Puzzle) []string {
	var tracks []string
	var fill func(track string)
	fill = func(track string) {
		if !strings.Contains(track, "?") {
			if modelFits(p, track) && modelIsClosed(track) {
				tracks = append(tracks, track)
			}
			return
		}
		for _, piece := range "LRS" {
			fill(strings.Replace(track, "?", string(piece), 1))
		}
	}
	fill(p.Track)
	return tracks
}

// modelSure is the answer of SurePieces: it crosses out, of the pieces of a solution, those that one of the others lacks.
func modelSure(tracks []string) answer[string] {
	if len(tracks) == 0 {
		return failsAs[string]()
	}
	sure := ""
	for at := range len(tracks[0]) {
		piece := tracks[0][at : at+1]
		for _, track := range tracks {
			if track[at:at+1] != piece {
				piece = "?"
				break
			}
		}
		sure += piece
	}
	return gives(sure)
}

// hint is what HintOf returns.
type hint struct {
	at    int
	piece string
}

func hintOf(p impl.Puzzle) answer[hint] {
	at, piece, ok := impl.HintOf(p)
	return answer[hint]{hint{at, piece}, ok}
}

// modelHint is the answer of HintOf: it goes from gap to gap.
func modelHint(p impl.Puzzle, tracks []string) answer[hint] {
	for at, letter := range p.Track {
		pieces := map[string]bool{}
		for _, track := range tracks {
			pieces[track[at:at+1]] = true
		}
		if letter == '?' && len(pieces) == 1 {
			return gives(hint{at, tracks[0][at : at+1]})
		}
	}
	return failsAs[hint]()
}

// modelOpen makes a piece a gap, without asking for the number of gaps.
func modelOpen(p impl.Puzzle, at int) impl.Puzzle {
	if p.Track[at] == 'S' {
		p.Straights++
	} else {
		p.Curves++
	}
	p.Track = p.Track[:at] + "?" + p.Track[at+1:]
	return p
}

// modelHarder is the answer of HarderPuzzle.
func modelHarder(p impl.Puzzle) answer[impl.Puzzle] {
	if len(modelSolutions(p)) != 1 {
		return failsAs[impl.Puzzle]()
	}
	for at, letter := range p.Track {
		if letter == '?' || modelGaps(p) == 9 {
			continue
		}
		if opened := modelOpen(p, at); len(modelSolutions(opened)) == 1 {
			p = opened
		}
	}
	return gives(p)
}

// modelMake is the answer of MakePuzzle: the number for each place is told by powers of 171 alone, and not by the one before.
func modelMake(ring string, seed int) impl.Puzzle {
	p := puzzle(ring, 0, 0)
	for at := range len(ring) {
		power := new(big.Int).Exp(big.NewInt(171), big.NewInt(int64(at+1)), nil)
		// 170 times all lower powers together is the power less 1.
		lower := new(big.Int).Div(new(big.Int).Sub(power, big.NewInt(1)), big.NewInt(170))
		z := new(big.Int).Add(power.Mul(power, big.NewInt(int64(seed))), lower.Mul(lower, big.NewInt(11213)))
		z.Mod(z, big.NewInt(53125))
		if z.Mod(z, big.NewInt(3)).Sign() == 0 && modelGaps(p) < 9 {
			p = modelOpen(p, at)
		}
	}
	return p
}

// gapsIn returns the puzzle of a track with gaps at some places.
func gapsIn(track string, places ...int) impl.Puzzle {
	p := puzzle(track, 0, 0)
	for _, at := range places {
		if p.Track[at] != '?' {
			p = modelOpen(p, at)
		}
	}
	return p
}

// wordPuzzles are puzzles of all texts of n letters with at most so many gaps, each with all numbers of pieces for them.
func wordPuzzles(n int, most int) []impl.Puzzle {
	var puzzles []impl.Puzzle
	for _, word := range wordsUpTo(n, "?LRS") {
		p := puzzle(word, 0, 0)
		if gaps := modelGaps(p); word != "" && gaps <= most {
			for _, b := range boxesOf(gaps) {
				puzzles = append(puzzles, puzzle(word, b.Straights, b.Curves))
			}
		}
	}
	return puzzles
}

// ringPuzzles have gaps in rings of 8 to 14 places: in those of one, sometimes with other numbers of pieces than the ring has there.
func ringPuzzles() []impl.Puzzle {
	next := diceFrom(93)
	var puzzles []impl.Puzzle
	for _, ring := range shortClosed() {
		for gaps := 0; gaps <= 9; gaps++ {
			p := puzzle(ring, 0, 0)
			for range gaps {
				at := next(len(ring))
				if p.Track[at] != '?' {
					p = modelOpen(p, at)
				}
			}
			puzzles = append(puzzles, p)
			if p.Straights > 0 && next(3) == 0 {
				puzzles = append(puzzles, puzzle(p.Track, p.Straights-1, p.Curves+1))
			}
			if p.Curves > 0 && next(3) == 0 {
				puzzles = append(puzzles, puzzle(p.Track, p.Straights+1, p.Curves-1))
			}
		}
	}
	return puzzles
}

// longPuzzles have up to 40 places, and as many gaps as there can be at the beginning, at the end, in the middle or everywhere.
func longPuzzles() []impl.Puzzle {
	var puzzles []impl.Puzzle
	for i, ring := range longClosed() {
		if i < 11 || i%41 == 0 {
			n := len(ring)
			puzzles = append(puzzles,
				gapsIn(ring, 0, 1, 2, 3, 4, 5, 6), gapsIn(ring, n-1, n-2, n-3, n-4, n-5, n-6), gapsIn(ring, n/2-3, n/2-2, n/2-1, n/2, n/2+1, n/2+2),
				gapsIn(ring, 0, n/7, 2*n/7, 3*n/7, 4*n/7, 5*n/7, 6*n/7), gapsIn(ring, n-1), gapsIn(ring),
			)
		}
	}
	return append(puzzles,
		puzzle("????????"+strings.Repeat("L", 31)+"?", 0, 9), puzzle("?????????"+strings.Repeat("R", 31), 0, 9), puzzle(strings.Repeat("L", 31)+"?????????", 2, 7),
		puzzle("LLLL????LLLL????", 4, 4), puzzle("L?L?L?L?L?L?L?L?", 4, 4), puzzle("LL??LL??LL??LL??", 0, 8), puzzle(strings.Repeat("LLLL?", 8), 4, 4),
		puzzle("LLLLLLL??LLLLLLLL??LLLL???LLLLLLLL?LLLL?", 4, 5),
	)
}

// somePuzzles are puzzles of all kinds.
func somePuzzles() []impl.Puzzle {
	return append(append(wordPuzzles(3, 3), ringPuzzles()...), longPuzzles()...)
}

// noPuzzles are none for each of the reasons there are.
func noPuzzles() []impl.Puzzle {
	list := []impl.Puzzle{
		{}, puzzle("", 0, 1), puzzle("", 1, 0), puzzle("", 1, -1),
		puzzle(strings.Repeat("S", 41), 0, 0), puzzle(strings.Repeat("S", 40)+"?", 1, 0), puzzle("?"+strings.Repeat("L", 40), 0, 1), puzzle(strings.Repeat("S", 100000), 0, 0),
		puzzle("??????????", 5, 5), puzzle("??????????", 0, 9), puzzle("??????????", 0, 10), puzzle("??????????", 10, 0), puzzle("?????????S?", 9, 0), puzzle("S?????LLL?????", 2, 8),
		puzzle(strings.Repeat("?", 40), 4, 5), puzzle(strings.Repeat("?", 40), 20, 20), puzzle(strings.Repeat("?", 100000), 50000, 50000),
		puzzle("S", 1, 0), puzzle("L", 0, 1), puzzle("SL", 1, 1), puzzle("LLLLLLLL", 0, 8), puzzle("LLLLLLLL", 1, -1), puzzle("LLLLLLLL", -1, 1),
		puzzle("?", 0, 0), puzzle("?", 1, 1), puzzle("?", 2, -1), puzzle("?", -1, 2), puzzle("?", 0, 2), puzzle("?", 2, 0), puzzle("?LLLL?LLLL", 2, 1), puzzle("?LLLL?LLLL", 1, 0),
		puzzle("?LLLL?LLLL", 3, -1), puzzle("?LLLL?LLLL", -1, 3), puzzle("?????????", 5, 5), puzzle("?????????", 4, 4), puzzle("?????????", -1, 10), puzzle("?????????", 10, -1),
	}
	for _, n := range []int{math.MinInt, math.MinInt + 1, -1 << 32, 1 << 32, 1 << 62, math.MaxInt - 1, math.MaxInt} {
		// The last ones have sums that go around.
		list = append(list, puzzle("??", n, 0), puzzle("??", 0, n), puzzle("??", n, n), puzzle("SL", n, -n), puzzle("??", n, 2-n), puzzle("??", 2-n, n))
	}
	for _, text := range noTracks() {
		if !strings.Contains(text, "?") {
			list = append(list, puzzle(text, 0, 0), puzzle(text[:min(len(text), 50)]+"?", 0, 1))
		}
	}
	return list
}
