package tests

import (
	"strings"
	"testing"

	"loop.example/g01217/impl"
)

func speed(moves, ticks int) impl.Speed { return impl.Speed{Moves: moves, Ticks: ticks} }

var fullLine, emptyLine = strings.Repeat("T", 24), strings.Repeat(".", 24)

// comings are lines with the ticks before and in their periods, their speeds, and their first ticks with all signals green, -1 for none.
var comings = []struct {
	line   string
	gap    int
	before int
	period int
	speed  impl.Speed
	free   int
}{
	{"TT..", 1, 1, 2, speed(2, 1), 1},
	{"TT..", 2, 1, 1, speed(0, 1), -1},
	{"TT..", 3, 0, 1, speed(0, 1), -1},
	{"T.T.", 1, 0, 2, speed(2, 1), 0},
	{"T.T.", 2, 0, 1, speed(0, 1), -1},
	{"T..T", 1, 1, 2, speed(2, 1), 1},
	{"T..T", 2, 1, 1, speed(0, 1), -1},

	{"T", 1, 0, 1, speed(0, 1), -1}, {"T", 2, 0, 1, speed(0, 1), -1}, {"T", 3, 0, 1, speed(0, 1), -1},
	{".", 1, 0, 1, speed(0, 1), -1}, {".", 2, 0, 1, speed(0, 1), -1}, {".", 3, 0, 1, speed(0, 1), -1},
	{"TT", 1, 0, 1, speed(0, 1), -1}, {"TT", 2, 0, 1, speed(0, 1), -1}, {"TT", 3, 0, 1, speed(0, 1), -1},
	{"..", 1, 0, 1, speed(0, 1), -1}, {"..", 2, 0, 1, speed(0, 1), -1}, {"..", 3, 0, 1, speed(0, 1), -1},
	{"T.", 1, 0, 2, speed(1, 1), 0}, {".T", 2, 0, 2, speed(1, 1), 0}, {"T.", 3, 0, 2, speed(1, 1), 0},
	{"T..", 1, 0, 3, speed(1, 1), 0}, {".T.", 2, 0, 3, speed(1, 1), 0}, {"..T", 3, 0, 3, speed(1, 1), 0},
	{"T.T", 1, 0, 3, speed(1, 1), -1}, {"T.T", 2, 0, 1, speed(0, 1), -1}, {"T.T", 3, 0, 1, speed(0, 1), -1},
	{fullLine, 1, 0, 1, speed(0, 1), -1}, {fullLine, 2, 0, 1, speed(0, 1), -1}, {fullLine, 3, 0, 1, speed(0, 1), -1},
	{emptyLine, 1, 0, 1, speed(0, 1), -1}, {emptyLine, 2, 0, 1, speed(0, 1), -1}, {emptyLine, 3, 0, 1, speed(0, 1), -1},
	{emptyLine[1:] + "T", 1, 0, 24, speed(1, 1), 0}, {emptyLine[1:] + "T", 2, 0, 24, speed(1, 1), 0}, {emptyLine[1:] + "T", 3, 0, 24, speed(1, 1), 0},
	{fullLine[1:] + ".", 1, 0, 24, speed(1, 1), -1}, {fullLine[1:] + ".", 2, 0, 1, speed(0, 1), -1},

	{"TTT.", 1, 0, 4, speed(1, 1), -1},
	{"TTT..", 1, 1, 5, speed(2, 1), -1},
	{"TTT...", 1, 2, 2, speed(3, 1), 2},
	{"TTT...", 2, 3, 1, speed(0, 1), -1},
	{"TT....", 2, 2, 3, speed(2, 1), 2},
	{"TT......", 3, 3, 4, speed(2, 1), 3},
	{"TT.....", 3, 2, 7, speed(1, 1), -1},
	{"..T....T", 3, 1, 4, speed(2, 1), 1},
	{fullLine[:12] + emptyLine[:12], 1, 11, 2, speed(12, 1), 11},
	{strings.Repeat("T...", 6), 3, 0, 4, speed(6, 1), 0},
	{strings.Repeat("T..", 8), 3, 0, 1, speed(0, 1), -1},
}

func TestLinesThatComeAgain(t *testing.T) {
	for _, row := range comings {
		same(t, periodOfLine(row.line, row.gap), gives([2]int{row.before, row.period}), "PeriodOfLine", row.line, row.gap)
		same(t, got(impl.SpeedOf(row.line, row.gap)), gives(row.speed), "SpeedOf", row.line, row.gap)
		free := orNone(row.free >= 0, func() answer[int] { return gives(row.free) })
		same(t, got(impl.FirstFree(row.line, row.gap)), free, "FirstFree", row.line, row.gap)
		stuck := row.before == 0 && row.speed.Moves == 0 && strings.Contains(row.line, "T")
		same(t, got(impl.IsStuck(row.line, row.gap)), gives(stuck), "IsStuck", row.line, row.gap)
	}
}

func TestLinesThatComeAgainLikeTheModel(t *testing.T) {
	free, never, stuck := 0, 0, 0
	for _, line := range someLines() {
		for _, gap := range allGaps {
			same(t, periodOfLine(line, gap), gives(modelPeriodOfLine(line, gap)), "PeriodOfLine", line, gap)
			wanted := modelFirstFree(line, gap)
			same(t, got(impl.FirstFree(line, gap)), wanted, "FirstFree", line, gap)
			same(t, got(impl.IsStuck(line, gap)), gives(modelIsStuck(line, gap)), "IsStuck", line, gap)
			if wanted.ok && wanted.value > 0 {
				free++
			} else if !wanted.ok {
				never++
			}
			if modelIsStuck(line, gap) {
				stuck++
			}
		}
	}
	if free < 100 || never < 100 || stuck < 100 {
		t.Error("there are too few lines of one sort:", free, never, stuck)
	}
}

// TestPeriodsOfLinesAreTicks checks with LineAfter that lines come again with the period, and not earlier.
func TestPeriodsOfLinesAreTicks(t *testing.T) {
	for _, line := range someLines() {
		for _, gap := range allGaps {
			before, period, ok := impl.PeriodOfLine(line, gap)
			same(t, ok && before >= 0 && period >= 1, true, "PeriodOfLine succeeds", line, gap)
			told := map[string]bool{}
			for ticks := range before + period {
				told[sure(impl.LineAfter(line, gap, ticks))] = true
			}
			same(t, len(told), before+period, "different lines", line, gap)
			again := got(impl.LineAfter(line, gap, before+period))
			same(t, again, got(impl.LineAfter(line, gap, before)), "the line that comes again", line, gap)
		}
	}
}

// TestSpeedsAreMovesInAPeriod holds speeds against the moves in a period, and in ten of them.
func TestSpeedsAreMovesInAPeriod(t *testing.T) {
	for _, line := range someLines() {
		for _, gap := range allGaps {
			period := modelPeriodOfLine(line, gap)
			course := modelCourse(line, gap)
			moves := modelMoves(course[period[0]:len(course)-1], gap)
			told := sure(impl.SpeedOf(line, gap))
			same(t, told.Moves*period[1], moves*told.Ticks, "SpeedOf", line, gap, told)
			for divisor := 2; divisor <= told.Ticks; divisor++ {
				same(t, told.Moves%divisor == 0 && told.Ticks%divisor == 0, false, "SpeedOf is divided further", line, gap, told)
			}
			same(t, told.Ticks >= 1 && told.Moves >= 0, true, "SpeedOf has ticks", line, gap, told)
			inTen := sure(impl.MovesIn(line, gap, period[0]+10*period[1])) - sure(impl.MovesIn(line, gap, period[0]))
			same(t, told.Moves*10*period[1], inTen*told.Ticks, "SpeedOf in ten periods", line, gap, told)
		}
	}
}

// TestFirstFreeIsFirst looks at the signals behind each tick until all are green, and checks that they stay so.
func TestFirstFreeIsFirst(t *testing.T) {
	for _, line := range someLines() {
		for _, gap := range allGaps {
			free, ok := impl.FirstFree(line, gap)
			if !ok {
				continue
			}
			for ticks := range free + 2*len(line) {
				signals := sure(impl.SignalsOf(sure(impl.LineAfter(line, gap, ticks)), gap))
				same(t, !strings.Contains(signals, "r"), ticks >= free, "all signals are green", line, gap, ticks)
			}
			same(t, got(impl.SpeedOf(line, gap)), gives(speed(len(modelPlaces(line)), 1)), "SpeedOf a free line", line, gap)
		}
	}
}

// TestStuckLinesStay checks that lines are stuck if there is a train and none has moved behind many ticks.
func TestStuckLinesStay(t *testing.T) {
	for _, line := range someLines() {
		for _, gap := range allGaps {
			stuck := sure(impl.TrainsOn(line)) > 0 && sure(impl.MovesIn(line, gap, 500)) == 0
			same(t, got(impl.IsStuck(line, gap)), gives(stuck), "IsStuck", line, gap)
			if stuck {
				same(t, periodOfLine(line, gap), gives([2]int{0, 1}), "PeriodOfLine of a stuck line", line, gap)
			}
		}
	}
}
