package tests

import (
	"math"
	"testing"

	"loop.example/g01217/impl"
)

// TestExampleOfYards follows the example of the chapter step by step.
func TestExampleOfYards(t *testing.T) {
	y := sure(impl.RingYard([]int{impl.KindTurn, impl.KindTurn}))
	same(t, numbered(y.Rails), "4 3 5 1 0 2", "the rails")
	runs := []impl.Run{
		run(0, 0, 0),
		run(3, 1, 0), // over 1 to the stem 3
		run(0, 1, 1), // over 4 to the stem 0
		run(5, 0, 1), // over 2 to the right branch of 1
		run(1, 0, 1), // over the stem 3 to the left branch of 0
		run(4, 0, 1), // over the stem 0 to the left branch of 1
		run(1, 0, 1), // over the stem 3 again
	}
	for n, r := range runs {
		same(t, printed(impl.StepsOfRun(y, runs[0], n)), printed(r, true), "StepsOfRun", n)
		if n > 0 {
			same(t, printed(impl.StepRun(y, runs[n-1])), printed(r, true), "StepRun", runs[n-1])
		}
	}
	same(t, printed(impl.EndsPassed(y, runs[0], 6)), gives("[0 3 0 5 1 4 1]"), "EndsPassed")
	same(t, printed(impl.VisitsOf(y, runs[0], 6)), gives("[3 3]"), "VisitsOf")
	same(t, printed(impl.TimesAt(y, runs[0], 1, 6)), gives("[4 6]"), "TimesAt")
	same(t, periodOf(y, runs[0]), gives([2]int{4, 2}), "PeriodOfRun")
}

// TestStepsThroughEachKind enters a switch of each kind at each end in each state, as the first switch and as the last one.
func TestStepsThroughEachKind(t *testing.T) {
	for pass, behind := range passes {
		kind, side, state := pass[0], pass[1], pass[2]
		for other := range 3 {
			for otherState := range 2 {
				first := impl.Yard{Kinds: []int{kind, other}, Rails: []int{3, 4, 5, 0, 1, 2}}
				want := run(3+behind[0], behind[1], otherState)
				same(t, printed(impl.StepRun(first, run(side, state, otherState))), printed(want, true), "StepRun", first, side, state)

				last := impl.Yard{Kinds: []int{other, kind}, Rails: []int{3, 4, 5, 0, 1, 2}}
				want = run(behind[0], otherState, behind[1])
				same(t, printed(impl.StepRun(last, run(3+side, otherState, state))), printed(want, true), "StepRun", last, side, state)
			}
		}
	}
}

// TestEndsOfOneSwitch takes yards in which an end of a switch is joined with another end of the same switch.
func TestEndsOfOneSwitch(t *testing.T) {
	stemAndLeft, stemAndRight, branches := []int{1, 0, 5, 4, 3, 2}, []int{2, 4, 0, 5, 1, 3}, []int{3, 2, 1, 0, 5, 4}
	steps := []struct {
		kind         int
		rails        []int
		before, then impl.Run
	}{
		{impl.KindLazy, stemAndLeft, run(0, 0, 1), run(0, 0, 1)},
		{impl.KindSpring, stemAndLeft, run(0, 0, 1), run(0, 0, 1)},
		{impl.KindTurn, stemAndLeft, run(0, 0, 1), run(0, 1, 1)},
		{impl.KindLazy, stemAndLeft, run(1, 1, 0), run(1, 0, 0)},
		{impl.KindSpring, stemAndLeft, run(1, 1, 0), run(1, 1, 0)},
		{impl.KindTurn, stemAndLeft, run(1, 1, 0), run(1, 1, 0)},
		{impl.KindLazy, stemAndLeft, run(2, 0, 0), run(1, 1, 0)},
		{impl.KindLazy, stemAndRight, run(0, 1, 0), run(0, 1, 0)},
		{impl.KindSpring, stemAndRight, run(2, 0, 0), run(2, 0, 0)},
		{impl.KindTurn, stemAndRight, run(0, 1, 0), run(0, 0, 0)},
		{impl.KindLazy, branches, run(0, 0, 0), run(2, 0, 0)},
		{impl.KindLazy, branches, run(2, 0, 0), run(3, 1, 0)},
		{impl.KindSpring, branches, run(0, 1, 0), run(1, 1, 0)},
		{impl.KindTurn, branches, run(0, 0, 0), run(2, 1, 0)},
		{impl.KindTurn, branches, run(2, 1, 0), run(3, 1, 0)},
	}
	for _, step := range steps {
		for other := range 3 {
			y := impl.Yard{Kinds: []int{step.kind, other}, Rails: step.rails}
			same(t, printed(impl.StepRun(y, step.before)), printed(step.then, true), "StepRun", y, step.before)
		}
	}
}

func TestStepRunLikeTheModel(t *testing.T) {
	for _, y := range someYards() {
		for _, r := range runsOn(y) {
			want := modelStep(y, r)
			same(t, printed(impl.StepRun(y, r)), printed(want, true), "StepRun", y, r)
			same(t, got(impl.IsRun(y, want)), gives(true), "IsRun", y, want)
		}
	}
}

// TestStepsOfRunAreSingleSteps compares a run behind n steps with that behind n single ones.
func TestStepsOfRunAreSingleSteps(t *testing.T) {
	for _, y := range someYards() {
		for _, r := range someRunsOn(y) {
			single := r
			for n := range 30 {
				same(t, printed(impl.StepsOfRun(y, r, n)), printed(single, true), "StepsOfRun", y, r, n)
				single = sure(impl.StepRun(y, single))
			}
		}
	}
}

// TestStepsToTheLimit compares runs behind up to 2000 steps with those behind as many single ones, and behind two parts of them.
func TestStepsToTheLimit(t *testing.T) {
	for _, long := range longYards {
		y, single := long.yard, long.run
		for n := range 2001 {
			if n%9 == 0 || n > 1990 {
				same(t, printed(impl.StepsOfRun(y, long.run, n)), printed(single, true), "StepsOfRun", y, long.run, n)
			}
			if n%80 == 0 {
				rest := printed(impl.StepsOfRun(y, single, 2000-n))
				same(t, rest, printed(impl.StepsOfRun(y, long.run, 2000)), "StepsOfRun behind others", y, long.run, n)
			}
			single = sure(impl.StepRun(y, single))
		}
	}
}

// noSteps are numbers of steps that are too small or too great for any call.
var noSteps = []int{math.MinInt, math.MinInt + 1, -2000, -200, -2, -1, 2001, 2002, 4000, 1 << 32, 1<<32 + 1, math.MaxInt - 1, math.MaxInt}

func TestNoNumbersOfSteps(t *testing.T) {
	for _, long := range longYards {
		y, r := long.yard, long.run
		for _, n := range noSteps {
			same(t, printed(impl.StepsOfRun(y, r, n)), failsAs[string](), "StepsOfRun", y, r, n)
			same(t, printed(impl.VisitsOf(y, r, n)), failsAs[string](), "VisitsOf", y, r, n)
		}
		for _, n := range append([]int{201, 202, 1000, 2000}, noSteps...) {
			same(t, printed(impl.EndsPassed(y, r, n)), failsAs[string](), "EndsPassed", y, r, n)
			for end := range y.Rails {
				same(t, printed(impl.TimesAt(y, r, end, n)), failsAs[string](), "TimesAt", y, r, end, n)
			}
		}
	}
}

// endsOf are the ends at which the trains of runs are.
func endsOf(runs []impl.Run) []int {
	var ends []int
	for _, r := range runs {
		ends = append(ends, r.At)
	}
	return ends
}

func TestEndsPassed(t *testing.T) {
	for _, y := range someYards() {
		for _, r := range someRunsOn(y) {
			ends := endsOf(modelFollowed(y, r, 12))
			for n := range 13 {
				same(t, printed(impl.EndsPassed(y, r, n)), printed(ends[:n+1], true), "EndsPassed", y, r, n)
			}
		}
	}
	for _, long := range longYards {
		ends := endsOf(modelFollowed(long.yard, long.run, 200))
		for _, n := range []int{0, 1, 199, 200} {
			same(t, printed(impl.EndsPassed(long.yard, long.run, n)), printed(ends[:n+1], true), "EndsPassed", long.yard, long.run, n)
		}
	}
}

// TestVisitsOfAreEndsPassed counts the ends that are passed; at the last one the train has not gone through the switch.
func TestVisitsOfAreEndsPassed(t *testing.T) {
	for i, y := range someYards() {
		for _, r := range someRunsOn(y) {
			for _, n := range []int{0, 1, 2, 3, 7, 10 + i} {
				visits := make([]int, len(y.Kinds))
				for _, end := range sure(impl.EndsPassed(y, r, n))[:n] {
					visits[end/3]++
				}
				same(t, printed(impl.VisitsOf(y, r, n)), printed(visits, true), "VisitsOf", y, r, n)
			}
		}
	}
}

func TestVisitsToTheLimit(t *testing.T) {
	for _, long := range longYards {
		visits := make([]int, len(long.yard.Kinds))
		for n, r := range modelFollowed(long.yard, long.run, 2000) {
			if n%99 < 2 || n > 1998 {
				same(t, printed(impl.VisitsOf(long.yard, long.run, n)), printed(visits, true), "VisitsOf", long.yard, long.run, n)
			}
			visits[r.At/3]++
		}
	}
}

// TestTimesAtAreEndsPassed looks for each end among those passed.
func TestTimesAtAreEndsPassed(t *testing.T) {
	for i, y := range someYards() {
		for _, r := range someRunsOn(y) {
			for _, n := range []int{0, 1, 5, 10 + i, 200} {
				times := make([][]int, len(y.Rails))
				for steps, end := range sure(impl.EndsPassed(y, r, n)) {
					times[end] = append(times[end], steps)
				}
				for end, want := range times {
					same(t, printed(impl.TimesAt(y, r, end, n)), printed(want, true), "TimesAt", y, r, end, n)
				}
			}
		}
	}
}

func TestTimesAtNoEnds(t *testing.T) {
	for _, y := range someYards() {
		r := runsOn(y)[1]
		for _, end := range []int{math.MinInt, -len(y.Rails), -3, -1, len(y.Rails), len(y.Rails) + 1, 18, 1 << 32, math.MaxInt} {
			for _, n := range []int{0, 1, 200} {
				same(t, printed(impl.TimesAt(y, r, end, n)), failsAs[string](), "TimesAt", y, r, end, n)
			}
		}
	}
}
