package tests

import (
	"fmt"
	"testing"

	"loop.example/g01217/impl"
)

func TestBackRun(t *testing.T) {
	rails := []int{3, 4, 5, 0, 1, 2}
	wanted := []struct {
		letters string
		run     impl.Run
		backs   []impl.Run
	}{
		// Over the stem of a lazy switch a train has come from the branch of the state, whatever the state was.
		{"lt", run(3, 0, 1), []impl.Run{run(1, 0, 1), run(1, 1, 1)}},
		{"lt", run(3, 1, 0), []impl.Run{run(2, 0, 0), run(2, 1, 0)}},
		// Over the stem of any other one it has come from either branch, in the state that is.
		{"sl", run(3, 1, 0), []impl.Run{run(1, 1, 0), run(2, 1, 0)}},
		{"tl", run(3, 0, 1), []impl.Run{run(1, 0, 1), run(2, 0, 1)}},
		// Over a branch it has come from the stem in the state of the branch, which a switch that turns has no longer.
		{"ls", run(4, 0, 1), []impl.Run{run(0, 0, 1)}},
		{"ls", run(4, 1, 1), nil},
		{"sl", run(5, 1, 0), []impl.Run{run(0, 1, 0)}},
		{"sl", run(5, 0, 0), nil},
		{"ts", run(4, 1, 0), []impl.Run{run(0, 0, 0)}},
		{"ts", run(4, 0, 0), nil},
		{"ts", run(5, 0, 1), []impl.Run{run(0, 1, 1)}},
		{"ts", run(5, 1, 1), nil},
	}
	for _, w := range wanted {
		y := yard(w.letters, rails...)
		same(t, printed(impl.BackRun(y, w.run)), printed(w.backs, true), "BackRun", y, w.run)
	}
}

// TestBackRunsAreAllRuns compares runs back, and how many there are that no step makes, with all runs on a yard.
func TestBackRunsAreAllRuns(t *testing.T) {
	for _, y := range someYards() {
		backs := modelBacks(y)
		unmade := 0
		for _, r := range runsOn(y) {
			want := backs[fmt.Sprint(r)]
			same(t, printed(impl.BackRun(y, r)), printed(want, true), "BackRun", y, r)
			if len(want) == 0 {
				unmade++
			}
		}
		same(t, got(impl.CountUnmade(y)), gives(unmade), "CountUnmade", y)
	}
}

// TestBackRunsMakeTheRun checks with StepRun what is told, and that each run is among those that lead to the next one.
func TestBackRunsMakeTheRun(t *testing.T) {
	for _, y := range someYards() {
		made, unmade := 0, 0
		for _, r := range runsOn(y) {
			backs := sure(impl.BackRun(y, r))
			for _, back := range backs {
				same(t, printed(impl.StepRun(y, back)), printed(r, true), "StepRun", y, back)
			}
			made += len(backs)
			if len(backs) == 0 {
				unmade++
			}
		}
		same(t, got(impl.CountRuns(y)), gives(made), "CountRuns", y)
		same(t, got(impl.CountUnmade(y)), gives(unmade), "CountUnmade", y)
		same(t, 3*unmade, made, "three times the runs that no step makes", y)
	}
}

func TestCountUnmade(t *testing.T) {
	for letters, want := range map[string]int{"ls": 8, "tttt": 64, "lstlst": 384} {
		same(t, got(impl.CountUnmade(sure(impl.RingYard(kindsOf(letters))))), gives(want), "CountUnmade", letters)
	}
}
