package tests

import (
	"math"
	"strings"

	"loop.example/g01217/impl"
)

// The model takes one piece after the other out of a box to lay all tracks there are, so that the program can be compared with it.

func box(straights, curves int) impl.Box { return impl.Box{Straights: straights, Curves: curves} }

func modelIsBox(b impl.Box, most int) bool {
	for straights := 0; straights <= most; straights++ {
		for curves := 0; curves <= most-straights; curves++ {
			if b == box(straights, curves) {
				return true
			}
		}
	}
	return false
}

// modelTake takes a piece out of a box, and tells whether there was one.
func modelTake(b impl.Box, piece rune) (impl.Box, bool) {
	if piece == 'S' {
		b.Straights--
	} else {
		b.Curves--
	}
	return b, b.Straights >= 0 && b.Curves >= 0
}

// modelLayAll calls found for each track that is laid whole from a box, in order.
func modelLayAll(b impl.Box, found func(track string)) {
	var lay func(track string, b impl.Box)
	lay = func(track string, b impl.Box) {
		if b == box(0, 0) {
			found(track)
		}
		for _, piece := range "LRS" {
			if rest, ok := modelTake(b, piece); ok {
				lay(track+string(piece), rest)
			}
		}
	}
	lay("", b)
}

// modelLacks takes the pieces of a track out of a box, and tells how many there were not.
func modelLacks(b impl.Box, track string) impl.Box {
	lacks := box(0, 0)
	for _, piece := range track {
		rest, ok := modelTake(b, piece)
		switch {
		case ok:
			b = rest
		case piece == 'S':
			lacks.Straights++
		default:
			lacks.Curves++
		}
	}
	return lacks
}

// modelUses is the box of the pieces of a track.
func modelUses(track string) impl.Box { return modelLacks(box(0, 0), track) }

// modelEnough is the answer of EnoughFor for tracks: it puts into a box what each of them lacks.
func modelEnough(tracks []string) answer[impl.Box] {
	enough := box(0, 0)
	for _, track := range tracks {
		lacks := modelLacks(enough, track)
		enough = box(enough.Straights+lacks.Straights, enough.Curves+lacks.Curves)
	}
	return orNone(modelIsBox(enough, 40), func() answer[impl.Box] { return gives(enough) })
}

// modelRingsFrom are the rings that are laid whole from a box, in order.
func modelRingsFrom(b impl.Box) []string {
	var rings []string
	for _, ring := range modelClosed()[b.Straights+b.Curves] {
		if modelUses(ring) == b {
			rings = append(rings, ring)
		}
	}
	return rings
}

// modelFirstsFrom are those of them that are first ones of their classes.
func modelFirstsFrom(b impl.Box) []string {
	var firsts []string
	for _, class := range modelClasses(b.Straights + b.Curves) {
		if modelUses(class[0]) == b {
			firsts = append(firsts, class[0])
		}
	}
	return firsts
}

// modelLongest is the answer of LongestRing: it looks among fewer and fewer pieces.
func modelLongest(b impl.Box) answer[string] {
	for n := b.Straights + b.Curves; n > 0; n-- {
		for _, ring := range modelClosed()[n] {
			if modelLacks(b, ring) == box(0, 0) {
				return gives(ring)
			}
		}
	}
	return failsAs[string]()
}

// modelRingBoxes are the boxes of n pieces from which a ring is laid whole, in order.
func modelRingBoxes(n int) []impl.Box {
	var boxes []impl.Box
	for _, b := range boxesOf(n) {
		if len(modelRingsFrom(b)) > 0 {
			boxes = append(boxes, b)
		}
	}
	return boxes
}

// cheapest is what CheapestRing returns.
type cheapest struct {
	box   impl.Box
	price int
}

func cheapestRing(n int, straight int, curve int) answer[cheapest] {
	b, price, ok := impl.CheapestRing(n, straight, curve)
	return answer[cheapest]{cheapest{b, price}, ok}
}

// modelCheapest is the answer of CheapestRing: it asks for higher and higher prices.
func modelCheapest(n int, straight int, curve int) answer[cheapest] {
	boxes := modelRingBoxes(n)
	for price := 0; len(boxes) > 0; price++ {
		for _, b := range boxes {
			if modelPrice(b, straight, curve) == price {
				return gives(cheapest{b, price})
			}
		}
	}
	return failsAs[cheapest]()
}

// modelPrice pays piece by piece.
func modelPrice(b impl.Box, straight int, curve int) int {
	price := 0
	for range b.Straights {
		price += straight
	}
	for range b.Curves {
		price += curve
	}
	return price
}

// distant is what FarthestEnd returns.
type distant struct {
	track string
	norm  impl.Surd
}

func farthestEnd(b impl.Box) answer[distant] {
	track, norm, ok := impl.FarthestEnd(b)
	return answer[distant]{distant{track, norm}, ok}
}

func modelEnd(track string) lead { return modelLaid(track)[len(track)] }

func modelCountEnds(b impl.Box) int {
	ends := map[lead]bool{}
	modelLayAll(b, func(track string) { ends[modelEnd(track)] = true })
	return len(ends)
}

func modelFarthestEnd(b impl.Box) distant {
	far := distant{norm: surd(-1, 0)}
	modelLayAll(b, func(track string) {
		// The squares of twice the numbers are four times the norm.
		norm := halfSurd(halfSurd(modelNorm(modelEnd(track).to, pt(0, 0, 0, 0))))
		if modelCompare(norm, far.norm) > 0 {
			far = distant{track, norm}
		}
	})
	return far
}

// boxesOf are all boxes of n pieces, in order.
func boxesOf(n int) []impl.Box {
	var boxes []impl.Box
	for straights := 0; straights <= n; straights++ {
		boxes = append(boxes, box(straights, n-straights))
	}
	return boxes
}

// boxesUpTo are all boxes of at most n pieces, those of fewer pieces first.
func boxesUpTo(n int) []impl.Box {
	var boxes []impl.Box
	for k := 0; k <= n; k++ {
		boxes = append(boxes, boxesOf(k)...)
	}
	return boxes
}

// boxesOver are all boxes of more than n pieces, those of just one more first.
func boxesOver(n int) []impl.Box { return boxesUpTo(40)[len(boxesUpTo(n)):] }

// noBoxes have a number below 0, or too many pieces; the sums of some of them are small, also as they go around.
func noBoxes() []impl.Box {
	list := boxesOf(41)
	for _, n := range []int{math.MinInt, math.MinInt + 1, -1 << 32, -100, -41, -40, -13, -9, -8, -1} {
		list = append(list, box(n, 0), box(0, n), box(n, n), box(n, 8), box(8, n), box(n, 1-n), box(1-n, n), box(n, -n), box(-n, n))
	}
	for _, n := range []int{41, 42, 100, 1 << 32, 1<<32 + 8, 1 << 62, 1<<63 - 8, math.MaxInt - 1, math.MaxInt} {
		list = append(list, box(n, 0), box(0, n), box(n, n), box(n, 8), box(8, n), box(n, 1-n), box(1-n, n))
	}
	return append(list, box(1<<62, 1<<62), box(math.MaxInt, 2), box(2, math.MaxInt), box(math.MaxInt, math.MinInt), box(math.MinInt, math.MinInt))
}

// noPrices are numbers that are no prices of pieces.
var noPrices = []int{math.MinInt, math.MinInt + 1, -1 << 32, -1001, -1000, -1, 1001, 1002, 2000, 1 << 32, 1<<32 + 5, math.MaxInt - 1, math.MaxInt}

// somePrices are prices at the limits and others.
var somePrices = []int{0, 1, 2, 3, 5, 499, 500, 999, 1000}

// repeated is a track of two runs.
func repeated(first string, many int, second string, more int) string {
	return strings.Repeat(first, many) + strings.Repeat(second, more)
}
