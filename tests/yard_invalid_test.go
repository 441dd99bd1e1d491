package tests

import (
	"fmt"
	"slices"
	"testing"

	"loop.example/g01217/impl"
)

// yardCalls are the calls that require a yard alone.
var yardCalls = map[string]func(impl.Yard) answer[string]{
	"CountRuns":   func(y impl.Yard) answer[string] { return printed(impl.CountRuns(y)) },
	"CountUnmade": func(y impl.Yard) answer[string] { return printed(impl.CountUnmade(y)) },
	"YardText":    func(y impl.Yard) answer[string] { return printed(impl.YardText(y)) },
}

// runCalls are the calls that require a yard and a run on it, with numbers at the limits.
var runCalls = map[string]func(impl.Yard, impl.Run) answer[string]{
	"StepRun":         func(y impl.Yard, r impl.Run) answer[string] { return printed(impl.StepRun(y, r)) },
	"StepsOfRun 0":    func(y impl.Yard, r impl.Run) answer[string] { return printed(impl.StepsOfRun(y, r, 0)) },
	"StepsOfRun 1":    func(y impl.Yard, r impl.Run) answer[string] { return printed(impl.StepsOfRun(y, r, 1)) },
	"StepsOfRun 2000": func(y impl.Yard, r impl.Run) answer[string] { return printed(impl.StepsOfRun(y, r, 2000)) },
	"EndsPassed 0":    func(y impl.Yard, r impl.Run) answer[string] { return printed(impl.EndsPassed(y, r, 0)) },
	"EndsPassed 200":  func(y impl.Yard, r impl.Run) answer[string] { return printed(impl.EndsPassed(y, r, 200)) },
	"PeriodOfRun": func(y impl.Yard, r impl.Run) answer[string] {
		period := periodOf(y, r)
		return printed(period.value, period.ok)
	},
	"VisitsOf 0":    func(y impl.Yard, r impl.Run) answer[string] { return printed(impl.VisitsOf(y, r, 0)) },
	"VisitsOf 2000": func(y impl.Yard, r impl.Run) answer[string] { return printed(impl.VisitsOf(y, r, 2000)) },
	"TimesAt 0 0":   func(y impl.Yard, r impl.Run) answer[string] { return printed(impl.TimesAt(y, r, 0, 0)) },
	"TimesAt 5 200": func(y impl.Yard, r impl.Run) answer[string] { return printed(impl.TimesAt(y, r, 5, 200)) },
	"BackRun":       func(y impl.Yard, r impl.Run) answer[string] { return printed(impl.BackRun(y, r)) },
	"CountsTo":      func(y impl.Yard, r impl.Run) answer[string] { return printed(impl.CountsTo(y, r)) },
}

func TestCallsOfNoYard(t *testing.T) {
	for _, y := range noYards() {
		for name, call := range yardCalls {
			same(t, call(y), failsAs[string](), name, y)
		}
		runs := []impl.Run{{}, run(0, make([]int, len(y.Kinds))...), run(0, make([]int, len(y.Rails)/3)...), run(1, 0, 1), run(0, 0, 0, 0, 0, 0, 0)}
		for _, r := range runs {
			for name, call := range runCalls {
				same(t, call(y, r), failsAs[string](), name, y, r)
			}
		}
	}
}

func TestCallsOfNoRun(t *testing.T) {
	for _, letters := range []string{"ll", "ss", "tt", "lt"} {
		y := yard(letters, 4, 3, 5, 1, 0, 2)
		for _, r := range noRuns() {
			for name, call := range runCalls {
				same(t, call(y, r), failsAs[string](), name, y, r)
			}
		}
	}
}

// changedYard is a yard with another number, or with one more or less, or as it is.
func changedYard(y impl.Yard, next func(int) int) impl.Yard {
	y = copyOfYard(y)
	switch next(8) {
	case 0:
		y.Kinds = y.Kinds[:next(len(y.Kinds))]
	case 1:
		y.Kinds = append(y.Kinds, next(4))
	case 2:
		y.Kinds[next(len(y.Kinds))] = someInts[next(len(someInts))]
	case 3:
		y.Rails = y.Rails[:next(len(y.Rails))]
	case 4:
		y.Rails = append(y.Rails, next(20))
	case 5:
		y.Rails[next(len(y.Rails))] = someInts[next(len(someInts))]
	}
	return y
}

// anyRun is a run on a yard, or one with another number or one more.
func anyRun(y impl.Yard, next func(int) int) impl.Run {
	r := run(next(len(y.Rails) + 1))
	for range y.Kinds {
		r.States = append(r.States, next(2))
	}
	switch next(8) {
	case 0:
		r.At = someInts[next(len(someInts))]
	case 1:
		r.States = append(r.States, next(2))
	case 2:
		r.States = append(r.States[min(1, len(r.States)):], someInts[next(len(someInts))])
	}
	return r
}

// TestAnyYardsAreAccepted calls everything with any numbers, in lists of any length.
func TestAnyYardsAreAccepted(t *testing.T) {
	next := diceFrom(23)
	yards := someYards()
	fine, bad := 0, 0
	for range 4000 {
		y := changedYard(yards[next(len(yards))], next)
		r := anyRun(y, next)
		isYard, isRun := modelIsYard(y), modelIsRun(y, r)
		same(t, impl.IsYard(y), isYard, "IsYard", y)
		same(t, got(impl.IsRun(y, r)), answer[bool]{isRun, isYard}, "IsRun", y, r)
		for name, call := range yardCalls {
			same(t, call(y).ok, isYard, name, "succeeds", y)
		}
		for name, call := range runCalls {
			want := isRun && (name != "CountsTo" || modelPeriodOfRun(y, r)[0] == 0)
			same(t, call(y, r).ok, want, name, "succeeds", y, r)
		}
		n, end := someInts[next(len(someInts))], someInts[next(len(someInts))]
		same(t, printed(impl.StepsOfRun(y, r, n)).ok, isRun && 0 <= n && n <= 2000, "StepsOfRun succeeds", y, r, n)
		same(t, printed(impl.EndsPassed(y, r, n)).ok, isRun && 0 <= n && n <= 200, "EndsPassed succeeds", y, r, n)
		same(t, printed(impl.VisitsOf(y, r, n)).ok, isRun && 0 <= n && n <= 2000, "VisitsOf succeeds", y, r, n)
		times := isRun && 0 <= n && n <= 200 && 0 <= end && end < len(y.Rails)
		same(t, printed(impl.TimesAt(y, r, end, n)).ok, times, "TimesAt succeeds", y, r, end, n)
		if isRun {
			fine++
		} else {
			bad++
		}
	}
	if fine < 500 || bad < 500 {
		t.Error("there are too few runs of one sort:", fine, bad)
	}
}

// roomy returns a list with room behind it, and all of the memory, in which this room is told by 77.
func roomy(list []int) ([]int, []int) {
	memory := append(append([]int{77}, list...), 77, 77, 77)
	return memory[1 : len(list)+1], memory
}

// TestYardsAndRunsStayTheSame checks that no call writes to what it is given, nor to the room behind it, nor reads this.
func TestYardsAndRunsStayTheSame(t *testing.T) {
	for i, y := range append(someYards(), noYards()...) {
		zeros := make([]int, len(y.Kinds))
		for _, r := range []impl.Run{run(i%6, zeros...), run(3, slices.Repeat([]int{1}, len(y.Kinds))...), run(6*len(y.Kinds), zeros...), run(0, 0)} {
			kinds, kindMemory := roomy(y.Kinds)
			rails, railMemory := roomy(y.Rails)
			states, stateMemory := roomy(r.States)
			before := fmt.Sprint(kindMemory, railMemory, stateMemory)
			roomyYard, roomyRun := impl.Yard{Kinds: kinds, Rails: rails}, run(r.At, states...)
			same(t, impl.IsYard(roomyYard), impl.IsYard(y), "IsYard", y)
			same(t, got(impl.IsRun(roomyYard, roomyRun)), got(impl.IsRun(y, r)), "IsRun", y, r)
			for name, call := range yardCalls {
				same(t, call(roomyYard), call(y), name, y)
			}
			for name, call := range runCalls {
				same(t, call(roomyYard, roomyRun), call(y, r), name, y, r)
			}
			same(t, printed(impl.RingYard(kinds)), printed(impl.RingYard(y.Kinds)), "RingYard", y.Kinds)
			same(t, fmt.Sprint(kindMemory, railMemory, stateMemory), before, "what was given", y, r)
		}
	}
}

// spoil writes to a list, and to the room behind it.
func spoil(lists ...[]int) {
	for _, list := range lists {
		list = list[:cap(list)]
		for i := range list {
			list[i] = 99
		}
	}
}

// TestListsOfYardsAreNew writes to what calls return: this changes neither what was given nor what is returned next.
func TestListsOfYardsAreNew(t *testing.T) {
	for _, y := range someYards() {
		for i, r := range someRunsOn(y) {
			if i%5 != 0 {
				continue
			}
			given := fmt.Sprint(y, r)
			before := allCallsOf(y, r)
			spoil(sure(impl.StepRun(y, r)).States, sure(impl.StepsOfRun(y, r, 0)).States, sure(impl.StepsOfRun(y, r, 7)).States)
			spoil(sure(impl.EndsPassed(y, r, 0)), sure(impl.EndsPassed(y, r, 9)), sure(impl.VisitsOf(y, r, 0)), sure(impl.VisitsOf(y, r, 9)))
			spoil(sure(impl.TimesAt(y, r, r.At, 0)), sure(impl.TimesAt(y, r, r.At, 99)))
			for _, back := range sure(impl.BackRun(y, r)) {
				spoil(back.States)
			}
			same(t, fmt.Sprint(y, r), given, "what was given")
			same(t, allCallsOf(y, r), before, "the calls again", y, r)
		}
	}
}

func allCallsOf(y impl.Yard, r impl.Run) string {
	var results []string
	for name, call := range runCalls {
		results = append(results, fmt.Sprint(name, call(y, r)))
	}
	slices.Sort(results)
	return fmt.Sprint(results)
}

// TestRunsBackShareNothing writes to one of the runs that are returned together, and looks at the others.
func TestRunsBackShareNothing(t *testing.T) {
	some := 0
	for _, y := range someYards() {
		for _, r := range someRunsOn(y) {
			backs := sure(impl.BackRun(y, r))
			if len(backs) < 2 {
				continue
			}
			some++
			second := fmt.Sprint(backs[1])
			spoil(backs[0].States)
			same(t, fmt.Sprint(backs[1]), second, "the second one of BackRun", y, r)
		}
	}
	if some < 500 {
		t.Error("there are too few runs with two runs back:", some)
	}
}

func TestNewYardsShareNothing(t *testing.T) {
	for _, switches := range []int{2, 4, 6} {
		for _, kinds := range countedIn(3, switches)[:9] {
			before := numbered(kinds)
			y := sure(impl.RingYard(kinds))
			text := sure(impl.YardText(y))
			parsed := sure(impl.ParseYard(text))
			spoil(y.Kinds)
			same(t, numbered(kinds), before, "the kinds that were given")
			same(t, numbered(y.Rails), numbered(parsed.Rails), "the rails of RingYard", kinds)
			spoil(parsed.Kinds)
			same(t, numbered(y.Rails), numbered(parsed.Rails), "the rails of ParseYard", text)
			spoil(y.Rails, parsed.Rails)
			same(t, got(impl.YardText(sure(impl.RingYard(kinds)))), gives(text), "RingYard again", kinds)
			same(t, got(impl.YardText(sure(impl.ParseYard(text)))), gives(text), "ParseYard again", text)
		}
	}
}
