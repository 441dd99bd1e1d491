package tests

import (
	"slices"
	"strings"
)

// The model makes the variants of rings as texts, one change after the other until nothing new comes, and lays no piece for them.

func modelMirror(ring string) string { return strings.NewReplacer("L", "R", "R", "L").Replace(ring) }

// modelReversed has the pieces backwards, as a ring that is mirrored and laid backwards has them.
func modelReversed(ring string) string {
	pieces := []byte(ring)
	slices.Reverse(pieces)
	return string(pieces)
}

func modelBack(ring string) string { return modelReversed(modelMirror(ring)) }

// modelVariants returns all different variants in order.
func modelVariants(ring string) []string {
	list := []string{ring}
	found := map[string]bool{ring: true}
	for i := 0; i < len(list); i++ {
		last := list[i]
		for _, next := range []string{last[1:] + last[:1], modelMirror(last), modelBack(last)} {
			if !found[next] {
				found[next] = true
				list = append(list, next)
			}
		}
	}
	slices.Sort(list)
	return list
}

// modelIsSpun tells whether two rings of as many pieces are spun ones of each other.
func modelIsSpun(a string, b string) bool { return len(a) == len(b) && strings.Contains(a+a, b) }

func modelPeriod(ring string) int { return strings.Index((ring + ring)[1:], ring) + 1 }

// modelClasses returns the classes of the rings of n pieces, up to 14, each with all its rings in order.
func modelClasses(n int) [][]string {
	var classes [][]string
	for _, ring := range modelClosed()[n] {
		variants := modelVariants(ring)
		if variants[0] == ring {
			classes = append(classes, variants)
		}
	}
	return classes
}

// modelGrow is the answer of GrowRing: it walks along the ring and lays both straights on the way.
func modelGrow(ring string, heading int) answer[string] {
	laid := modelLaid(ring)
	grown := ""
	there, back := false, false
	for i, piece := range ring {
		if !there && laid[i].heading == heading {
			grown, there = grown+"S", true
		}
		if !back && laid[i].heading == (heading+4)%8 {
			grown, back = grown+"S", true
		}
		grown += string(piece)
	}
	if !there || !back || len(grown) > 40 {
		return failsAs[string]()
	}
	return gives(grown)
}

// modelCrossings counts pairs of joints at one point, without the last joint.
func modelCrossings(ring string) int {
	count := 0
	for _, pair := range modelMeetings(ring) {
		if pair[1] != len(ring) {
			count++
		}
	}
	return count
}

// likeThemselves are rings that are their own mirror, their own back, both, or the mirror of their own back: each has two halves, of which one is a variant of the other.
func likeThemselves() []string {
	var list []string
	for i, half := range shortClosed() {
		if i%7 == 0 {
			list = append(list, half+modelMirror(half), half+modelBack(half), half+modelReversed(half))
		}
	}
	for _, half := range []string{"LLLLLLSS", "SLLLLLLS", "SLLLLSLLLL"} {
		list = append(list, half+modelMirror(half))
	}
	return list
}

// someRings are short rings and long ones, of all kinds.
func someRings() []string { return append(closedOnes(), likeThemselves()...) }

// noRings are texts that are no tracks, and tracks that do not come back, or come back with another heading.
func noRings() []string {
	list := append(noTracks(), tracksUpTo(7)...)
	return append(list,
		"LLLLLLLl", "LLLLLLLL ", " LLLLLLLL", "L8", "-", "LLLLLLL?", "LLLLLLLL\x00", "\x00LLLLLLLL", strings.Repeat("\x00", 40),
		strings.Repeat("L", 48), strings.Repeat("SLLLLSLLLL", 5), strings.Repeat("S", 17)+"LLLL"+strings.Repeat("S", 17)+"LLLL",
		"LLLLLLLLL", "LRLRLRLR", "SLLLLLLLL", "SLLLLLLS", "LLLLSLLLL", "SSLLLLSLLLL", strings.Repeat("S", 40), strings.Repeat("L", 39),
	)
}
