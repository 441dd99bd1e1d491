package tests

import (
	"fmt"
	"slices"
	"testing"

	"loop.example/g01217/impl"
)

// periodOf is the answer of PeriodOfRun with both numbers as one value.
func periodOf(y impl.Yard, r impl.Run) answer[[2]int] {
	before, period, ok := impl.PeriodOfRun(y, r)
	return answer[[2]int]{[2]int{before, period}, ok}
}

// TestRunsThatComeAgainAtOnce takes ends that are joined with the end over which the train leaves.
func TestRunsThatComeAgainAtOnce(t *testing.T) {
	rails := []int{1, 0, 3, 2, 5, 4}
	for _, letters := range []string{"ll", "ls", "lt", "ss", "st"} {
		y := yard(letters, rails...)
		for state := range 2 {
			r := run(0, 0, state)
			same(t, printed(impl.StepRun(y, r)), printed(r, true), "StepRun", y, r)
			same(t, periodOf(y, r), gives([2]int{0, 1}), "PeriodOfRun", y, r)
			same(t, got(impl.CountsTo(y, r)), gives(1), "CountsTo", y, r)
		}
	}
	// From a branch that is joined with its stem the train comes to the same branch, but a lazy switch first takes the state of the branch.
	for letters, before := range map[string]int{"ll": 1, "ss": 0, "tt": 0} {
		y, r := yard(letters, rails...), run(1, 1, 0)
		same(t, periodOf(y, r), gives([2]int{before, 1}), "PeriodOfRun", y, r)
		same(t, got(impl.CountsTo(y, r)), orNone(before == 0, func() answer[int] { return gives(1) }), "CountsTo", y, r)
	}
}

func TestRunsThatComeAgainLater(t *testing.T) {
	for _, long := range longYards {
		y, r := long.yard, long.run
		same(t, periodOf(y, r), gives([2]int{long.before, long.period}), "PeriodOfRun", y, r)
		counts := orNone(long.before == 0, func() answer[int] { return gives(long.period) })
		same(t, got(impl.CountsTo(y, r)), counts, "CountsTo", y, r)
		// Once it is in the period, the train comes again to each run.
		inside := sure(impl.StepsOfRun(y, r, long.before))
		same(t, periodOf(y, inside), gives([2]int{0, long.period}), "PeriodOfRun", y, inside)
		same(t, got(impl.CountsTo(y, inside)), gives(long.period), "CountsTo", y, inside)
		if long.before > 0 {
			outside := sure(impl.StepsOfRun(y, r, long.before-1))
			same(t, periodOf(y, outside), gives([2]int{1, long.period}), "PeriodOfRun", y, outside)
			same(t, got(impl.CountsTo(y, outside)), failsAs[int](), "CountsTo", y, outside)
		}
	}
}

func TestPeriodsLikeTheModel(t *testing.T) {
	for _, y := range someYards() {
		for _, r := range someRunsOn(y) {
			same(t, periodOf(y, r), gives(modelPeriodOfRun(y, r)), "PeriodOfRun", y, r)
		}
	}
}

// TestPeriodsAreSteps checks with StepsOfRun that runs come again with the period, and not earlier.
func TestPeriodsAreSteps(t *testing.T) {
	for _, y := range someYards() {
		for _, r := range someRunsOn(y) {
			before, period, ok := impl.PeriodOfRun(y, r)
			same(t, ok && before >= 0 && period >= 1, true, "PeriodOfRun succeeds", y, r)
			told := map[string]bool{}
			for n := range before + period {
				told[fmt.Sprint(sure(impl.StepsOfRun(y, r, n)))] = true
			}
			same(t, len(told), before+period, "different runs", y, r)
			again := printed(impl.StepsOfRun(y, r, before+period))
			same(t, again, printed(impl.StepsOfRun(y, r, before)), "the run that comes again", y, r)
		}
	}
}

// TestCountsToFirstRun follows runs until the first one is there again, for up to 2000 steps.
func TestCountsToFirstRun(t *testing.T) {
	counted, never := 0, 0
	for _, y := range someYards() {
		for _, r := range someRunsOn(y) {
			want := failsAs[int]()
			for n, behind := range modelFollowed(y, r, 2000) {
				if n > 0 && behind.At == r.At && slices.Equal(behind.States, r.States) {
					want = gives(n)
					counted++
					break
				}
			}
			if !want.ok {
				never++
			}
			same(t, got(impl.CountsTo(y, r)), want, "CountsTo", y, r)
		}
	}
	if counted < 200 || never < 200 {
		t.Error("there are too few runs of one sort:", counted, never)
	}
}

// TestCountsToBoth takes runs of which the states or the end are there again before both are.
func TestCountsToBoth(t *testing.T) {
	// Springs keep all states; the train goes around through both switches.
	springs := sure(impl.RingYard(kindsOf("ss")))
	same(t, printed(impl.EndsPassed(springs, run(0, 0, 0), 2)), gives("[0 3 0]"), "EndsPassed")
	same(t, got(impl.CountsTo(springs, run(0, 0, 0))), gives(2), "CountsTo", springs)
	states, ends := 0, 0
	for _, y := range someYards() {
		for _, r := range someRunsOn(y) {
			count, ok := impl.CountsTo(y, r)
			if !ok {
				continue
			}
			followed := modelFollowed(y, r, count)
			same(t, fmt.Sprint(followed[count]), fmt.Sprint(r), "the run behind CountsTo", y, r)
			between := followed[1:count]
			if slices.ContainsFunc(between, func(s impl.Run) bool { return slices.Equal(s.States, r.States) }) {
				states++
			}
			if slices.ContainsFunc(between, func(s impl.Run) bool { return s.At == r.At }) {
				ends++
			}
		}
	}
	if states < 100 || ends < 100 {
		t.Error("there are too few runs of one sort:", states, ends)
	}
}
