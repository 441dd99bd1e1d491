package tests

import (
	"fmt"
	"slices"
	"strings"
	"testing"

	"loop.example/g01217/impl"
)

// boxCalls are the calls that require a box, with how many pieces it has at most.
var boxCalls = map[string]struct {
	most int
	call func(b impl.Box) answer[string]
}{
	"CanLay no pieces":      {40, func(b impl.Box) answer[string] { return printed(impl.CanLay(b, "")) }},
	"CanLay a track":        {40, func(b impl.Box) answer[string] { return printed(impl.CanLay(b, "SLR")) }},
	"MissingFor no pieces":  {40, func(b impl.Box) answer[string] { return printed(impl.MissingFor(b, "")) }},
	"MissingFor a track":    {40, func(b impl.Box) answer[string] { return printed(impl.MissingFor(b, "SLR")) }},
	"AddBoxes with nothing": {40, func(b impl.Box) answer[string] { return printed(impl.AddBoxes(b, box(0, 0))) }},
	"AddBoxes to nothing":   {40, func(b impl.Box) answer[string] { return printed(impl.AddBoxes(box(0, 0), b)) }},
	"PriceOf for nothing":   {40, func(b impl.Box) answer[string] { return printed(impl.PriceOf(b, 0, 0)) }},
	"PriceOf for much":      {40, func(b impl.Box) answer[string] { return printed(impl.PriceOf(b, 1000, 999)) }},
	"CountTracks":           {12, func(b impl.Box) answer[string] { return printed(impl.CountTracks(b)) }},
	"CountRingsFrom":        {12, func(b impl.Box) answer[string] { return printed(impl.CountRingsFrom(b)) }},
	"RingsFrom":             {12, func(b impl.Box) answer[string] { return printed(impl.RingsFrom(b)) }},
	"CountEnds":             {8, func(b impl.Box) answer[string] { return printed(impl.CountEnds(b)) }},
	"FarthestEnd":           {8, func(b impl.Box) answer[string] { a := farthestEnd(b); return printed(a.value, a.ok) }},
}

// trackBoxCalls are the calls that require a track.
var trackBoxCalls = map[string]func(string) answer[string]{
	"BoxOf":                    func(track string) answer[string] { return printed(impl.BoxOf(track)) },
	"CanLay from nothing":      func(track string) answer[string] { return printed(impl.CanLay(box(0, 0), track)) },
	"CanLay from a box":        func(track string) answer[string] { return printed(impl.CanLay(box(20, 20), track)) },
	"MissingFor of nothing":    func(track string) answer[string] { return printed(impl.MissingFor(box(0, 0), track)) },
	"MissingFor of a box":      func(track string) answer[string] { return printed(impl.MissingFor(box(20, 20), track)) },
	"EnoughFor it alone":       func(track string) answer[string] { return printed(impl.EnoughFor([]string{track})) },
	"EnoughFor it and nothing": func(track string) answer[string] { return printed(impl.EnoughFor([]string{track, ""})) },
	"EnoughFor it as the last": func(track string) answer[string] {
		return printed(impl.EnoughFor(append(slices.Repeat([]string{""}, 19), track)))
	},
}

func TestCallsOfNoBox(t *testing.T) {
	for _, b := range noBoxes() {
		for name, row := range boxCalls {
			same(t, row.call(b), failsAs[string](), name, b)
		}
		same(t, got(impl.LongestRing(b)), failsAs[string](), "LongestRing", b)
		same(t, got(impl.AddBoxes(b, b)), failsAs[impl.Box](), "AddBoxes", b, b)
		same(t, got(impl.AddBoxes(b, box(8, -1))), failsAs[impl.Box](), "AddBoxes", b)
		// The sums are boxes, but not both summands.
		other := box(8-b.Straights, 8-b.Curves)
		same(t, got(impl.AddBoxes(b, other)), failsAs[impl.Box](), "AddBoxes", b, other)
		same(t, got(impl.AddBoxes(other, b)), failsAs[impl.Box](), "AddBoxes", other, b)
	}
}

func TestBoxCallsOfNoTrack(t *testing.T) {
	for _, text := range noTracks() {
		for name, call := range trackBoxCalls {
			same(t, call(text), failsAs[string](), name, text)
		}
		for _, b := range append(noBoxes()[:50], boxesOf(40)[:3]...) {
			same(t, got(impl.CanLay(b, text)), failsAs[bool](), "CanLay", b, text)
			same(t, got(impl.MissingFor(b, text)), failsAs[impl.Box](), "MissingFor", b, text)
		}
	}
}

func TestNoPrices(t *testing.T) {
	for _, none := range noPrices {
		for _, price := range append(somePrices, none, -none) {
			for _, b := range []impl.Box{box(0, 0), box(1, 0), box(0, 1), box(2, 8), box(20, 20), box(-1, 1)} {
				same(t, got(impl.PriceOf(b, none, price)), failsAs[int](), "PriceOf", b, none, price)
				same(t, got(impl.PriceOf(b, price, none)), failsAs[int](), "PriceOf", b, price, none)
			}
			for _, n := range []int{0, 7, 8, 10, 12, 13} {
				same(t, cheapestRing(n, none, price), failsAs[cheapest](), "CheapestRing", n, none, price)
				same(t, cheapestRing(n, price, none), failsAs[cheapest](), "CheapestRing", n, price, none)
			}
		}
	}
}

func TestNoNumbersOfPiecesOfBoxes(t *testing.T) {
	for _, n := range noRingLengths {
		for _, price := range somePrices {
			same(t, cheapestRing(n, price, 1), failsAs[cheapest](), "CheapestRing", n, price)
		}
	}
}

// TestAnyBoxesAreAccepted calls everything with boxes and prices of any numbers.
func TestAnyBoxesAreAccepted(t *testing.T) {
	numbers := append([]int{3, 4, 9, 10, 12, 13, 20, 28, 31, 39, 40, 41}, someInts...)
	for _, straights := range numbers {
		for _, curves := range numbers {
			b := box(straights, curves)
			for name, row := range boxCalls {
				same(t, row.call(b).ok, modelIsBox(b, row.most), name, "succeeds", b)
			}
			longest := orNone(modelIsBox(b, 12), func() answer[string] { return modelLongest(b) })
			same(t, got(impl.LongestRing(b)), longest, "LongestRing", b)
			price := orNone(0 <= straights && straights <= 1000 && 0 <= curves && curves <= 1000, func() answer[int] {
				return gives(modelPrice(box(2, 8), straights, curves))
			})
			same(t, got(impl.PriceOf(box(2, 8), straights, curves)), price, "PriceOf", straights, curves)
		}
	}
	for _, n := range numbers {
		_, ok := impl.RingBoxes(n)
		same(t, ok, 1 <= n && n <= 12, "RingBoxes succeeds", n)
		same(t, cheapestRing(n, 1, 1).ok, n == 8 || n == 10 || n == 12, "CheapestRing succeeds", n)
	}
}

// TestAnyBoxTextsAreAccepted calls what takes tracks with texts of any bytes.
func TestAnyBoxTextsAreAccepted(t *testing.T) {
	next := diceFrom(71)
	tracks := someTracks()
	counts := map[bool]int{}
	for range 5000 {
		text := []byte(tracks[next(len(tracks))])
		for range next(2) {
			text = slices.Insert(text, next(len(text)+1), byte(next(256)))
		}
		if next(4) == 0 {
			text = append(text, "SLRX\x00"[next(5)])
		}
		s := string(text)
		is := len(s) <= 40 && strings.Trim(s, "SLR") == ""
		counts[is]++
		for name, call := range trackBoxCalls {
			same(t, call(s).ok, is, name, "succeeds", s)
		}
	}
	if counts[true] < 1000 || counts[false] < 1000 {
		t.Error("there are too few texts of one sort:", counts)
	}
}

// TestListsOfTracksStayTheSame checks that EnoughFor writes neither to the list nor to the room behind it, nor reads this.
func TestListsOfTracksStayTheSame(t *testing.T) {
	lists := someLists()
	for _, row := range enoughs {
		lists = append(lists, row.tracks)
	}
	for _, tracks := range lists {
		// What is behind would be no track, or would not fit.
		memory := append(append([]string{"X"}, tracks...), "X", strings.Repeat("S", 40), strings.Repeat("L", 40))
		before := fmt.Sprintf("%q", memory)
		want := got(impl.EnoughFor(slices.Clip(slices.Clone(tracks))))
		same(t, got(impl.EnoughFor(memory[1:len(tracks)+1])), want, "EnoughFor", tracks)
		same(t, fmt.Sprintf("%q", memory), before, "what was given to EnoughFor")
	}
}

// TestListsOfBoxesAreNew writes to what calls return, and to the room behind it: this does not change what is returned next, nor what was returned before.
func TestListsOfBoxesAreNew(t *testing.T) {
	for _, b := range boxesUpTo(12) {
		want := listed(modelFirstsFrom(b), true)
		first, second := sure(impl.RingsFrom(b)), sure(impl.RingsFrom(b))
		for i := range first[:cap(first)] {
			first[:cap(first)][i] = "X"
		}
		same(t, listed(second, true), want, "rings beside them", b)
		same(t, listed(impl.RingsFrom(b)), want, "RingsFrom again", b)
	}
	for n := 1; n <= 12; n++ {
		want := printed(modelRingBoxes(n), true)
		first, second := sure(impl.RingBoxes(n)), sure(impl.RingBoxes(n))
		for i := range first[:cap(first)] {
			first[:cap(first)][i] = box(-7, -7)
		}
		same(t, printed(second, true), want, "boxes beside them", n)
		same(t, printed(impl.RingBoxes(n)), want, "RingBoxes again", n)
		same(t, cheapestRing(n, 2, 1), modelCheapest(n, 2, 1), "CheapestRing again", n)
	}
}

// TestBoxCallsAreRepeated checks that a call leaves nothing behind for the next one.
func TestBoxCallsAreRepeated(t *testing.T) {
	all := func() string {
		var results []string
		for _, b := range append(boxesUpTo(12), noBoxes()[:9]...) {
			for name, row := range boxCalls {
				results = append(results, fmt.Sprint(b, name, row.call(b)))
			}
			results = append(results, fmt.Sprint(b, got(impl.LongestRing(b))))
		}
		for _, track := range someTracks() {
			for name, call := range trackBoxCalls {
				results = append(results, fmt.Sprint(track, name, call(track)))
			}
		}
		for _, row := range enoughs {
			results = append(results, fmt.Sprint(row.name, got(impl.EnoughFor(row.tracks))))
		}
		slices.Sort(results)
		return strings.Join(results, "\n")
	}
	first := all()
	for range 2 {
		same(t, all(), first, "all calls again")
	}
}
