package tests

import (
	"fmt"
	"math"
	"slices"
	"strings"
	"testing"

	"loop.example/g01217/impl"
)

func TestKinds(t *testing.T) {
	same(t, [3]int{impl.KindLazy, impl.KindSpring, impl.KindTurn}, [3]int{0, 1, 2}, "the kinds")
	same(t, [2]int{impl.MaxSwitches, impl.MaxSteps}, [2]int{6, 2000}, "the limits")
}

func TestYards(t *testing.T) {
	different := map[string]bool{}
	for _, y := range smallYards() {
		different[fmt.Sprint(y)] = true
	}
	same(t, len(different), 15*9, "the number of yards of two switches")
	for _, y := range someYards() {
		same(t, impl.IsYard(y), true, "IsYard", y)
	}
}

// tooManySwitches is a yard in all but the number of its switches: 8.
func tooManySwitches() impl.Yard {
	return yard("ltsltsts", 10, 3, 5, 1, 6, 2, 4, 9, 11, 7, 0, 8, 22, 15, 17, 13, 18, 14, 16, 21, 23, 19, 12, 20)
}

// withNumber is a yard with another number in place of one.
func withNumber(y impl.Yard, inKinds bool, at int, number int) impl.Yard {
	y = copyOfYard(y)
	if inKinds {
		y.Kinds[at] = number
	} else {
		y.Rails[at] = number
	}
	return y
}

// noYards are values that are no yards, each for one reason alone as far as it can be.
func noYards() []impl.Yard {
	rails := []int{4, 3, 5, 1, 0, 2}
	list := []impl.Yard{
		{}, {Kinds: []int{}, Rails: []int{}}, {Kinds: []int{0, 0}}, {Rails: rails}, tooManySwitches(),
		// No switch alone, and no other odd number of them, has all its ends joined.
		yard("l"), yard("l", 1, 0), yard("l", 1, 0, 2), yard("l", 1, 0, 3), yard("l", 0, 2, 1), yard("l", 1, 2, 0),
		yard("lst", 1, 0, 3, 2, 5, 4, 7, 6, 8), yard("lst", 1, 0, 3, 2, 5, 4, 7, 6), yard("lst", 1, 0, 3, 2, 5, 4, 7, 6, 9, 8),
		yard("lllll", 1, 0, 3, 2, 5, 4, 7, 6, 9, 8, 11, 10, 13, 12, 14),
		yard("ttttttt", 1, 0, 3, 2, 5, 4, 7, 6, 9, 8, 11, 10, 13, 12, 15, 14, 17, 16, 19, 18, 20),
		// The numbers of switches and of rails do not fit.
		yard("t", rails...), yard("ttt", rails...), yard("tttt", rails...), yard("tt", rails[:5]...), yard("tt", rails[:4]...), yard("tt", 1, 0, 3, 2),
		yard("tt", 4, 3, 5, 1, 0, 2, 6), yard("tt", 4, 3, 5, 1, 0, 2, 7, 6), yard("tt", 4, 3, 5, 1, 0, 2, 0), yard("tt", 1, 0, 3, 2, 5, 4, 7, 6, 9, 8, 11, 10),
		// An end is joined with itself, not joined back, or joined with none that there is.
		yard("tt", 0, 3, 5, 1, 4, 2), yard("tt", 0, 1, 2, 3, 4, 5), yard("tt", 4, 3, 2, 1, 0, 5),
		yard("tt", 3, 4, 5, 1, 2, 0), yard("tt", 1, 2, 0, 4, 5, 3), yard("tt", 4, 3, 5, 1, 4, 2), yard("tt", 4, 4, 5, 1, 0, 2), yard("tt", 4, 3, 5, 1, 0, 3),
		yard("tt", 4, 3, 6, 1, 0, 2), yard("tt", 4, 3, -1, 1, 0, 2), yard("tt", 4, 3, 5, 1, 0, -4), yard("tt", 5, 4, 6, 2, 1, 3),
	}
	for at := range rails {
		list = append(list, withNumber(yard("ls", rails...), false, at, at))
	}
	for _, kind := range []int{math.MinInt, -3, -1, 3, 4, 1 << 32, math.MaxInt} {
		for at := range 2 {
			list = append(list, withNumber(yard("ls", rails...), true, at, kind))
		}
		list = append(list, withNumber(greatYards()[40], true, 3, kind))
	}
	return list
}

func TestNoYards(t *testing.T) {
	for _, y := range noYards() {
		same(t, impl.IsYard(y), false, "IsYard", y)
		same(t, modelIsYard(y), false, "a yard in the model", y)
	}
	y := tooManySwitches()
	y.Kinds, y.Rails = y.Kinds[:4], y.Rails[:12]
	same(t, impl.IsYard(y), true, "IsYard of the first four switches", y)
}

// TestYardsWithAnotherNumber puts each of someInts, and each end, in place of each number.
func TestYardsWithAnotherNumber(t *testing.T) {
	numbers := slices.Concat(someInts, []int{3, 4, 5, 6, 9, 11, 12, 17, 18})
	for i, y := range someYards() {
		if i%6 != 0 {
			continue
		}
		for _, number := range numbers {
			for at := range y.Kinds {
				changed := withNumber(y, true, at, number)
				same(t, impl.IsYard(changed), modelIsYard(changed), "IsYard", changed)
			}
			for at := range y.Rails {
				changed := withNumber(y, false, at, number)
				same(t, impl.IsYard(changed), modelIsYard(changed), "IsYard", changed)
			}
		}
	}
}

func TestRunsOnYards(t *testing.T) {
	for _, y := range someYards() {
		for _, r := range someRunsOn(y) {
			same(t, got(impl.IsRun(y, r)), gives(true), "IsRun", y, r)
		}
	}
}

// noRuns are runs that are none on a yard of two switches.
func noRuns() []impl.Run {
	list := []impl.Run{
		{}, run(0), run(0, 0), run(0, 1), run(0, 0, 0, 0), run(5, 1, 1, 1), run(0, 0, 0, 0, 0, 0, 0), run(3, 0, 1, 0, 1, 0, 1),
		run(0, 2, 0), run(0, 0, 2), run(0, -1, 0), run(0, 0, -1), run(4, 1, 3), run(6, 0, 0), run(7, 1, 0), run(-1, 0, 0), run(-6, 1, 1),
	}
	for _, number := range someInts {
		if number < 0 || number > 5 {
			list = append(list, run(number, 0, 1), run(0, number, 1), run(0, 0, number), run(number, number, number))
		}
	}
	return list
}

func TestNoRuns(t *testing.T) {
	for _, letters := range []string{"ll", "ss", "tt", "lt"} {
		y := yard(letters, 4, 3, 5, 1, 0, 2)
		for _, r := range noRuns() {
			same(t, got(impl.IsRun(y, r)), gives(false), "IsRun", y, r)
		}
	}
	// A run on one yard is none on a yard of another size.
	small, great := yard("tt", 4, 3, 5, 1, 0, 2), sure(impl.RingYard(kindsOf("tttttt")))
	same(t, got(impl.IsRun(great, run(0, 0, 0))), gives(false), "IsRun", great)
	same(t, got(impl.IsRun(great, run(17, 0, 1, 0, 1, 0, 1))), gives(true), "IsRun", great)
	same(t, got(impl.IsRun(great, run(18, 0, 1, 0, 1, 0, 1))), gives(false), "IsRun", great)
	same(t, got(impl.IsRun(small, run(0, 0, 1, 0, 1, 0, 1))), gives(false), "IsRun", small)
	for _, y := range noYards() {
		for _, r := range []impl.Run{{}, run(0, 0), run(0, 0, 0), run(0, 0, 0, 0), run(0, 0, 0, 0, 0, 0, 0), run(0, 0, 0, 0, 0, 0, 0, 0, 0)} {
			same(t, got(impl.IsRun(y, r)), failsAs[bool](), "IsRun", y, r)
		}
	}
}

func TestCountRuns(t *testing.T) {
	for letters, want := range map[string]int{"ls": 24, "tttt": 192, "lstlst": 1152} {
		same(t, got(impl.CountRuns(sure(impl.RingYard(kindsOf(letters))))), gives(want), "CountRuns", letters)
	}
	for _, y := range someYards() {
		same(t, got(impl.CountRuns(y)), gives(len(runsOn(y))), "CountRuns", y)
	}
}

func TestRingYard(t *testing.T) {
	rails := map[int]string{
		2: "4 3 5 1 0 2",
		4: "10 3 5 1 6 2 4 9 11 7 0 8",
		6: "16 3 5 1 6 2 4 9 11 7 12 8 10 15 17 13 0 14",
	}
	for switches, want := range rails {
		for _, kinds := range countedIn(3, switches) {
			y, ok := impl.RingYard(kinds)
			same(t, ok && impl.IsYard(y), true, "RingYard", kinds)
			same(t, numbered(y.Kinds), numbered(kinds), "the kinds of RingYard", kinds)
			same(t, numbered(y.Rails), want, "the rails of RingYard", kinds)
		}
	}
}

func TestNoRingYards(t *testing.T) {
	for _, switches := range []int{0, 1, 3, 5, 7, 8, 9, 10, 12, 100} {
		for kind := range 3 {
			kinds := slices.Repeat([]int{kind}, switches)
			same(t, printed(impl.RingYard(kinds)), failsAs[string](), "RingYard", kinds)
		}
	}
	same(t, printed(impl.RingYard(nil)), failsAs[string](), "RingYard of none")
	for _, switches := range []int{2, 4, 6} {
		for at := range switches {
			for _, kind := range []int{math.MinInt, -1, 3, 4, 1 << 32, math.MaxInt} {
				kinds := kindsOf(strings.Repeat("lt", switches/2))
				kinds[at] = kind
				same(t, printed(impl.RingYard(kinds)), failsAs[string](), "RingYard", kinds)
			}
		}
	}
}
