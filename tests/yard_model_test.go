package tests

import (
	"fmt"
	"slices"

	"loop.example/g01217/impl"
)

// The model looks up each way through a switch in a list of all of them, and finds what is told of runs among all runs there are.

// passes tells for a kind, the side over which a train comes in (0 for the stem, 1 and 2 for the branches) and the state: the side over which it leaves, and the state behind it.
var passes = map[[3]int][2]int{
	{impl.KindLazy, 0, 0}: {1, 0}, {impl.KindLazy, 0, 1}: {2, 1},
	{impl.KindLazy, 1, 0}: {0, 0}, {impl.KindLazy, 1, 1}: {0, 0},
	{impl.KindLazy, 2, 0}: {0, 1}, {impl.KindLazy, 2, 1}: {0, 1},

	{impl.KindSpring, 0, 0}: {1, 0}, {impl.KindSpring, 0, 1}: {2, 1},
	{impl.KindSpring, 1, 0}: {0, 0}, {impl.KindSpring, 1, 1}: {0, 1},
	{impl.KindSpring, 2, 0}: {0, 0}, {impl.KindSpring, 2, 1}: {0, 1},

	{impl.KindTurn, 0, 0}: {1, 1}, {impl.KindTurn, 0, 1}: {2, 0},
	{impl.KindTurn, 1, 0}: {0, 0}, {impl.KindTurn, 1, 1}: {0, 1},
	{impl.KindTurn, 2, 0}: {0, 0}, {impl.KindTurn, 2, 1}: {0, 1},
}

func modelStep(y impl.Yard, r impl.Run) impl.Run {
	k := r.At / 3
	pass := passes[[3]int{y.Kinds[k], r.At % 3, r.States[k]}]
	states := slices.Clone(r.States)
	states[k] = pass[1]
	return run(y.Rails[3*k+pass[0]], states...)
}

// modelFollowed are a run and those behind each of n steps.
func modelFollowed(y impl.Yard, r impl.Run, n int) []impl.Run {
	list := []impl.Run{r}
	for len(list) <= n {
		list = append(list, modelStep(y, list[len(list)-1]))
	}
	return list
}

// modelPeriodOfRun follows a run until there is one that has been there before.
func modelPeriodOfRun(y impl.Yard, r impl.Run) [2]int {
	times := map[string]int{}
	for n := 0; ; n++ {
		if first, again := times[fmt.Sprint(r)]; again {
			return [2]int{first, n - first}
		}
		times[fmt.Sprint(r)] = n
		r = modelStep(y, r)
	}
}

// modelBacks tells for each run, printed, the runs of which a step makes it, in order.
func modelBacks(y impl.Yard) map[string][]impl.Run {
	backs := map[string][]impl.Run{}
	for _, r := range runsOn(y) {
		behind := fmt.Sprint(modelStep(y, r))
		backs[behind] = append(backs[behind], r)
	}
	return backs
}

func modelIsYard(y impl.Yard) bool {
	joined := map[[2]int]bool{}
	for end, other := range y.Rails {
		joined[[2]int{end, other}] = true
	}
	for pair := range joined {
		if pair[0] == pair[1] || !joined[[2]int{pair[1], pair[0]}] {
			return false
		}
	}
	for _, kind := range y.Kinds {
		if kind != 0 && kind != 1 && kind != 2 {
			return false
		}
	}
	return 1 <= len(y.Kinds) && len(y.Kinds) <= 6 && len(y.Rails) == 3*len(y.Kinds)
}

func modelIsRun(y impl.Yard, r impl.Run) bool {
	for _, state := range r.States {
		if state != 0 && state != 1 {
			return false
		}
	}
	return modelIsYard(y) && 0 <= r.At && r.At < 3*len(y.Kinds) && len(r.States) == len(y.Kinds)
}

// run is short for a run at an end with these states.
func run(at int, states ...int) impl.Run { return impl.Run{At: at, States: states} }

// kindsOf are the kinds with these letters.
func kindsOf(letters string) []int {
	var kinds []int
	for _, letter := range letters {
		kinds = append(kinds, map[rune]int{'l': impl.KindLazy, 's': impl.KindSpring, 't': impl.KindTurn}[letter])
	}
	return kinds
}

func yard(letters string, rails ...int) impl.Yard {
	return impl.Yard{Kinds: kindsOf(letters), Rails: rails}
}

func copyOfYard(y impl.Yard) impl.Yard {
	return impl.Yard{Kinds: slices.Clone(y.Kinds), Rails: slices.Clone(y.Rails)}
}

// countedIn are all lists of n digits 0, .., base - 1, in order.
func countedIn(base int, n int) [][]int {
	lists := [][]int{nil}
	for range n {
		var longer [][]int
		for _, list := range lists {
			for digit := range base {
				longer = append(longer, append(slices.Clone(list), digit))
			}
		}
		lists = longer
	}
	return lists
}

// runsOn are all runs on a yard, ordered by their At, then by their States.
func runsOn(y impl.Yard) []impl.Run {
	var list []impl.Run
	for at := range y.Rails {
		for _, states := range countedIn(2, len(y.Kinds)) {
			list = append(list, run(at, states...))
		}
	}
	return list
}

// smallYards are all yards of two switches: the first end is joined with each other one, the next free one with each other free one, and the last two are left.
func smallYards() []impl.Yard {
	var list []impl.Yard
	for other := 1; other < 6; other++ {
		var free []int
		for end := 1; end < 6; end++ {
			if end != other {
				free = append(free, end)
			}
		}
		for second := 1; second < 4; second++ {
			rails := make([]int, 6)
			left := slices.Delete(slices.Clone(free[1:]), second-1, second)
			for _, pair := range [][2]int{{0, other}, {free[0], free[second]}, {left[0], left[1]}} {
				rails[pair[0]], rails[pair[1]] = pair[1], pair[0]
			}
			for _, kinds := range countedIn(3, 2) {
				list = append(list, copyOfYard(impl.Yard{Kinds: kinds, Rails: rails}))
			}
		}
	}
	return list
}

// longYards are yards on which runs come again late, each with such a run, and with the steps before and in the period.
var longYards = []struct {
	yard   impl.Yard
	run    impl.Run
	before int
	period int
}{
	{yard("tl", 4, 3, 5, 1, 0, 2), run(0, 0, 0), 6, 2},
	{yard("lt", 4, 3, 5, 1, 0, 2), run(0, 0, 0), 7, 2},
	{yard("tl", 3, 2, 1, 0, 5, 4), run(2, 0, 0), 1, 8},
	{yard("tttt", 8, 2, 1, 11, 7, 10, 9, 4, 0, 6, 5, 3), run(11, 0, 0, 0, 0), 1, 66},
	{yard("lttl", 9, 3, 8, 1, 5, 4, 11, 10, 2, 0, 7, 6), run(10, 0, 0, 0, 0), 35, 3},
	{yard("tltt", 11, 10, 4, 7, 2, 8, 9, 3, 5, 6, 1, 0), run(2, 0, 0, 0, 0), 33, 26},
	{yard("tttsts", 9, 8, 12, 7, 14, 17, 13, 3, 1, 0, 15, 16, 2, 6, 4, 10, 11, 5), run(9, 0, 0, 0, 0, 0, 0), 0, 121},
	{yard("ttlttt", 7, 5, 8, 11, 14, 1, 15, 0, 2, 13, 16, 3, 17, 9, 4, 6, 10, 12), run(17, 0, 0, 0, 0, 0, 0), 151, 169},
	{yard("tttttt", 6, 11, 9, 17, 12, 10, 0, 13, 15, 2, 5, 1, 4, 7, 16, 8, 14, 3), run(4, 0, 0, 0, 0, 0, 0), 5, 451},
}

// greatYards are yards of four switches and of six, of all kinds.
func greatYards() []impl.Yard {
	var list []impl.Yard
	for _, long := range longYards {
		if len(long.yard.Kinds) > 2 {
			list = append(list, long.yard)
		}
	}
	next := diceFrom(17)
	for k := range 40 {
		switches := 4 + k%2*2
		y := impl.Yard{Rails: make([]int, 3*switches)}
		for range switches {
			y.Kinds = append(y.Kinds, next(3))
		}
		var free []int
		for end := range y.Rails {
			free = slices.Insert(free, next(end+1), end)
		}
		for i := 0; i < len(free); i += 2 {
			y.Rails[free[i]], y.Rails[free[i+1]] = free[i+1], free[i]
		}
		list = append(list, y)
	}
	return list
}

func someYards() []impl.Yard { return append(smallYards(), greatYards()...) }

// someRunsOn are all runs on a small yard, and a few ones on a great one.
func someRunsOn(y impl.Yard) []impl.Run {
	all := runsOn(y)
	if len(y.Kinds) == 2 {
		return all
	}
	var list []impl.Run
	for i := 0; i < len(all); i += 47 {
		list = append(list, all[i])
	}
	return list
}
