package tests

import (
	"regexp"
	"strconv"
	"strings"
	"testing"

	"loop.example/g01217/impl"
)

func TestPuzzleText(t *testing.T) {
	wanted := map[string]impl.Puzzle{
		"?LLLL?LLLL:2:0": puzzle("?LLLL?LLLL", 2, 0), "LLLLLLL?:0:1": puzzle("LLLLLLL?", 0, 1), "?:1:0": puzzle("?", 1, 0), "S:0:0": puzzle("S", 0, 0), "SLR?:0:1": puzzle("SLR?", 0, 1),
		"?????????:9:0": puzzle("?????????", 9, 0), "?????????:4:5": puzzle("?????????", 4, 5), "LLLLLLLL:0:0": puzzle("LLLLLLLL", 0, 0),
		strings.Repeat("R", 40) + ":0:0": puzzle(strings.Repeat("R", 40), 0, 0), strings.Repeat("S", 31) + "?????????:0:9": puzzle(strings.Repeat("S", 31)+"?????????", 0, 9),
	}
	for text, p := range wanted {
		same(t, got(impl.PuzzleText(p)), gives(text), "PuzzleText", p)
		same(t, got(impl.ParsePuzzle(text)), gives(p), "ParsePuzzle", text)
	}
}

// modelPuzzleText spells a puzzle part by part.
func modelPuzzleText(p impl.Puzzle) string {
	return strings.Join([]string{p.Track, strconv.Itoa(p.Straights), strconv.Itoa(p.Curves)}, ":")
}

func TestPuzzlesAreReadBack(t *testing.T) {
	for _, p := range append(somePuzzles(), wordPuzzles(5, 5)...) {
		text := modelPuzzleText(p)
		same(t, got(impl.PuzzleText(p)), gives(text), "PuzzleText", p)
		same(t, got(impl.ParsePuzzle(text)), gives(p), "ParsePuzzle", text)
	}
	for _, p := range noPuzzles() {
		same(t, got(impl.PuzzleText(p)), failsAs[string](), "PuzzleText of a text of bytes:", len(p.Track), p.Straights, p.Curves)
		same(t, got(impl.ParsePuzzle(modelPuzzleText(p))), failsAs[impl.Puzzle](), "ParsePuzzle of a text of bytes:", len(p.Track), p.Straights, p.Curves)
	}
}

func TestTextsOfNoPuzzles(t *testing.T) {
	texts := []string{
		// Other numbers of parts, and empty ones.
		"", ":", "::", ":::", "?", "?LLLL?LLLL", "?:1", "?:", "?::", "?:1:", "?::1", ":1:0", ":0:0", "?1:0", "?:10", "?:1:0:", "?:1:0:0", ":?:1:0", "?::1:0", "?:1::0", "S:0", "S:0:0:0", "S::", "S:0:", "S::0",
		// Signs, leading zeros and spaces.
		"?:+1:0", "?:1:+0", "?:1:-0", "?:-0:1", "?:-1:2", "?:2:-1", "S:-1:1", "S:1:-1", "?:01:0", "?:1:00", "?:00:1", "?:0:01", "?: 1:0", "?:1 :0", "?:1: 0", "?:1:0 ", " ?:1:0", "? :1:0",
		"?:1:0\n", "\n?:1:0", "?:1:0\x00", "\x00?:1:0", "?\x00:1:0", "?:1,0", "?,1,0", "?;1;0", "?:1.0:0", "?:1_:0", "?:1e0:0", "?:0x1:0", "?:a:0", "?:１:0", "?:1:O", "？:1:0",
		// Numbers that are too great, or that do not fit the gaps.
		"?:18446744073709551617:0", "?:1:18446744073709551616", "?:4294967297:0", "?:9223372036854775807:0", "?:-9223372036854775808:0", "?:9223372036854775808:0", "??:9223372036854775807:-9223372036854775805",
		"?:0:0", "?:1:1", "?:2:0", "?:0:2", "?:10:0", "S:1:0", "S:0:1", "?LLLL?LLLL:2:1", "?LLLL?LLLL:1:0", "?LLLL?LLLL:0:0", "LLLLLLLL:0:8",
		// Tracks of no puzzle.
		"X:0:0", "s:0:0", "S?X:1:0", "-:0:0", "L8:0:0", "S L:0:0", "??????????:5:5", "??????????:10:0", "*:1:0", "_:1:0", "Ѕ:0:0", "\xff:0:0",
		strings.Repeat("S", 41) + ":0:0", strings.Repeat("S", 40) + "?:1:0", strings.Repeat("S", 100000) + ":0:0", strings.Repeat("?", 100000) + ":0:100000", strings.Repeat(":", 100000),
		"?:" + strings.Repeat("0", 100000) + "1:0", "?:1:" + strings.Repeat("9", 100000), "?:1:0" + strings.Repeat(":0", 100000),
	}
	for _, s := range texts {
		same(t, got(impl.ParsePuzzle(s)), failsAs[impl.Puzzle](), "ParsePuzzle", s[:min(len(s), 60)])
	}
}

var threeParts = regexp.MustCompile(`^([SLR?]+):(0|[1-9][0-9]?):(0|[1-9][0-9]?)$`)

// modelParsePuzzle is the answer of ParsePuzzle.
func modelParsePuzzle(s string) answer[impl.Puzzle] {
	parts := threeParts.FindStringSubmatch(s)
	if parts == nil {
		return failsAs[impl.Puzzle]()
	}
	straights, _ := strconv.Atoi(parts[2])
	curves, _ := strconv.Atoi(parts[3])
	p := puzzle(parts[1], straights, curves)
	return orNone(modelIsPuzzle(p), func() answer[impl.Puzzle] { return gives(p) })
}

// TestChangedTextsOfPuzzles takes bytes out of texts of puzzles, puts others in, and exchanges them.
func TestChangedTextsOfPuzzles(t *testing.T) {
	read := 0
	for i, p := range somePuzzles() {
		if i%17 != 0 {
			continue
		}
		text := modelPuzzleText(p)
		for at := range len(text) {
			changed := []string{text[:at] + text[at+1:], text[:at] + text[at:at+1] + text[at:]}
			for _, letter := range "SLR?:0129-+ l\x00" {
				changed = append(changed, text[:at]+string(letter)+text[at:], text[:at]+string(letter)+text[at+1:])
			}
			for _, s := range changed {
				want := modelParsePuzzle(s)
				same(t, got(impl.ParsePuzzle(s)), want, "ParsePuzzle", s)
				if want.ok {
					read++
				}
			}
		}
	}
	if read < 1000 {
		t.Error("too few changed texts are those of puzzles:", read)
	}
}
