package tests

import (
	"strings"
	"sync"

	"loop.example/g01217/impl"
)

// The model finds closed tracks by laying all texts there are, piece by piece, without halves.

// modelSearch calls found for each text of 0 to most pieces, in order, that leads from p with the heading h to 0 with the heading 0.
func modelSearch(p impl.Point, h int, most int, found func(text string)) {
	text := make([]byte, 0, most)
	var search func(p impl.Point, h int)
	search = func(p impl.Point, h int) {
		if p == pt(0, 0, 0, 0) && h%8 == 0 {
			found(string(text))
		}
		if len(text) == most {
			return
		}
		for _, piece := range "LRS" {
			to, behind := p, h
			modelLay(&to, &behind, piece)
			text = append(text, byte(piece))
			search(to, behind)
			text = text[:len(text)-1]
		}
	}
	search(p, h)
}

// modelClosed returns, for each number of pieces up to 14, all closed tracks in order.
var modelClosed = sync.OnceValue(func() [15][]string {
	var lists [15][]string
	modelSearch(pt(0, 0, 0, 0), 0, 14, func(text string) {
		if text != "" {
			lists[len(text)] = append(lists[len(text)], text)
		}
	})
	return lists
})

func modelIsClosed(track string) bool {
	laid := modelLaid(track)
	return track != "" && laid[len(track)] == lead{}
}

// modelCompletions returns, for each number of pieces up to 7, all texts that complete a track, without asking for its length.
func modelCompletions(track string) [8][]string {
	var lists [8][]string
	end := modelLaid(track)[len(track)]
	modelSearch(end.to, end.heading, 7, func(text string) {
		if track+text != "" {
			lists[len(text)] = append(lists[len(text)], text)
		}
	})
	return lists
}

// modelTally tells how many pieces of each kind there are, straights first.
func modelTally(track string) [3]int {
	var tally [3]int
	for _, piece := range track {
		tally[strings.IndexRune("SLR", piece)]++
	}
	return tally
}

// modelWinding follows the headings, and counts how often they come around.
func modelWinding(track string) int {
	eighths, last := 0, 0
	for _, l := range modelLaid(track)[1:] {
		eighths += (l.heading-last+12)%8 - 4
		last = l.heading
	}
	return eighths / 8
}

// shortClosed are all closed tracks of at most 14 pieces.
func shortClosed() []string {
	var list []string
	for _, tracks := range modelClosed() {
		list = append(list, tracks...)
	}
	return list
}

// longClosed are closed tracks of up to 40 pieces: some that go around several times, and others with one laid at a joint of another.
func longClosed() []string {
	list := []string{
		strings.Repeat("L", 16), strings.Repeat("R", 40), strings.Repeat("SLLLLSLLLL", 4), strings.Repeat("RRRRRRRRLLLLLLLL", 2),
		strings.Repeat("S", 16) + "LLLL" + strings.Repeat("S", 16) + "LLLL", "SSSRRSSSRRSSSRRSSSRR", strings.Repeat("SSSL", 8),
		"LLLLLLSSRRRRRRSS", "LLLRLLLRLLLRLLLR", strings.Repeat("LRL", 8), strings.Repeat("LRRR", 4) + "LRRRLRRRLRRRLRRR",
	}
	short := shortClosed()
	for i, outer := range short {
		inner := short[(i*37+11)%len(short)]
		at := i % (len(outer) + 1)
		list = append(list, outer[:at]+inner+outer[at:])
	}
	return list
}

// closedOnes are short closed tracks and long ones.
func closedOnes() []string { return append(shortClosed(), longClosed()...) }
