package tests

import (
	"slices"
	"strings"
	"testing"

	"loop.example/g01217/impl"
)

// lineCalls are the calls that require a line alone, or with a number that each line has.
var lineCalls = map[string]func(string) answer[string]{
	"TrainsOn":   func(line string) answer[string] { return printed(impl.TrainsOn(line)) },
	"GapsOfLine": func(line string) answer[string] { return printed(impl.GapsOfLine(line)) },
	"HoleLine":   func(line string) answer[string] { return got(impl.HoleLine(line)) },
	"SpinLine 0": func(line string) answer[string] { return got(impl.SpinLine(line, 0)) },
}

// gapCalls are the calls that require a line and a gap, with ticks at the limits.
var gapCalls = map[string]func(string, int) answer[string]{
	"SignalsOf":       func(line string, gap int) answer[string] { return got(impl.SignalsOf(line, gap)) },
	"TickLine":        func(line string, gap int) answer[string] { return got(impl.TickLine(line, gap)) },
	"LineAfter 0":     func(line string, gap int) answer[string] { return got(impl.LineAfter(line, gap, 0)) },
	"LineAfter 10000": func(line string, gap int) answer[string] { return got(impl.LineAfter(line, gap, 10000)) },
	"MovesIn 0":       func(line string, gap int) answer[string] { return printed(impl.MovesIn(line, gap, 0)) },
	"MovesIn 10000":   func(line string, gap int) answer[string] { return printed(impl.MovesIn(line, gap, 10000)) },
	"WaitsIn 0":       func(line string, gap int) answer[string] { return printed(impl.WaitsIn(line, gap, 0)) },
	"WaitsIn 10000":   func(line string, gap int) answer[string] { return printed(impl.WaitsIn(line, gap, 10000)) },
	"PeriodOfLine": func(line string, gap int) answer[string] {
		period := periodOfLine(line, gap)
		return printed(period.value, period.ok)
	},
	"SpeedOf":   func(line string, gap int) answer[string] { return printed(impl.SpeedOf(line, gap)) },
	"FirstFree": func(line string, gap int) answer[string] { return printed(impl.FirstFree(line, gap)) },
	"IsStuck":   func(line string, gap int) answer[string] { return printed(impl.IsStuck(line, gap)) },
}

// tickCalls are the calls that require a number of ticks, too.
var tickCalls = map[string]func(string, int, int) answer[string]{
	"LineAfter": func(line string, gap int, ticks int) answer[string] { return got(impl.LineAfter(line, gap, ticks)) },
	"MovesIn":   func(line string, gap int, ticks int) answer[string] { return printed(impl.MovesIn(line, gap, ticks)) },
	"WaitsIn":   func(line string, gap int, ticks int) answer[string] { return printed(impl.WaitsIn(line, gap, ticks)) },
}

func TestCallsOfNoLine(t *testing.T) {
	for _, text := range noLines() {
		short := text[:min(len(text), 60)]
		for name, call := range lineCalls {
			same(t, call(text), failsAs[string](), name, short)
		}
		same(t, got(impl.SpinLine(text, 1)), failsAs[string](), "SpinLine", short, 1)
		for _, gap := range []int{0, 1, 2, 3, 4} {
			for name, call := range gapCalls {
				same(t, call(text, gap), failsAs[string](), name, short, gap)
			}
		}
		for name, call := range tickCalls {
			same(t, call(text, 1, 10001), failsAs[string](), name, short, 10001)
			same(t, call(text, 1, -1), failsAs[string](), name, short, -1)
		}
	}
}

func TestCallsOfNoGap(t *testing.T) {
	for _, line := range []string{"T", ".", "T.", "TT", "TT..", "T...T...", strings.Repeat("T...", 6), strings.Repeat("T", 24), strings.Repeat(".", 24)} {
		for _, gap := range noGaps() {
			for name, call := range gapCalls {
				same(t, call(line, gap), failsAs[string](), name, line, gap)
			}
		}
	}
}

func TestCallsOfNoTicks(t *testing.T) {
	for _, line := range []string{"T", ".", "T.", "TT", "TT..", strings.Repeat("T...", 6), strings.Repeat("T", 24), strings.Repeat(".", 24)} {
		for _, gap := range append([]int{0, 4}, allGaps...) {
			for _, ticks := range noTicks() {
				for name, call := range tickCalls {
					same(t, call(line, gap, ticks), failsAs[string](), name, line, gap, ticks)
				}
			}
		}
	}
}

// TestAnyLinesAreAccepted calls everything with texts of any bytes and with any numbers.
func TestAnyLinesAreAccepted(t *testing.T) {
	next := diceFrom(31)
	fine := 0
	for range 10000 {
		text := make([]byte, next(30))
		for i := range text {
			text[i] = "T."[next(2)]
			if next(60) == 0 {
				text[i] = byte(next(256))
			}
		}
		line, gap, ticks, k := string(text), next(6)-1, someInts[next(len(someInts))], someInts[next(len(someInts))]
		is := modelIsLine(line)
		withGap := is && 1 <= gap && gap <= 3
		same(t, impl.IsLine(line), is, "IsLine", line)
		for name, call := range lineCalls {
			same(t, call(line).ok, is, name, "succeeds", line)
		}
		same(t, got(impl.SpinLine(line, k)).ok, is && 0 <= k && k < len(line), "SpinLine succeeds", line, k)
		for name, call := range gapCalls {
			want := withGap && (name != "FirstFree" || modelFirstFree(line, gap).ok)
			same(t, call(line, gap).ok, want, name, "succeeds", line, gap)
		}
		for name, call := range tickCalls {
			same(t, call(line, gap, ticks).ok, withGap && 0 <= ticks && ticks <= 10000, name, "succeeds", line, gap, ticks)
		}
		if withGap {
			fine++
		}
	}
	if fine < 1000 || fine > 9000 {
		t.Error("there are too few lines of one sort:", fine)
	}
}

// TestGapsOfLinesAreNew writes to what GapsOfLine returns, and to the room behind it.
func TestGapsOfLinesAreNew(t *testing.T) {
	for _, line := range someLines() {
		before := printed(impl.GapsOfLine(line))
		first, second := sure(impl.GapsOfLine(line)), sure(impl.GapsOfLine(line))
		spoil(first)
		same(t, printed(second, true), before, "a list beside it", line)
		same(t, printed(impl.GapsOfLine(line)), before, "GapsOfLine again", line)
	}
}

func TestTextsOfLinesAreNew(t *testing.T) {
	texts := map[string]func(string) (string, bool){
		"HoleLine":    impl.HoleLine,
		"SpinLine 0":  func(line string) (string, bool) { return impl.SpinLine(line, 0) },
		"SpinLine":    func(line string) (string, bool) { return impl.SpinLine(line, len(line)/2) },
		"SignalsOf":   func(line string) (string, bool) { return impl.SignalsOf(line, 2) },
		"TickLine":    func(line string) (string, bool) { return impl.TickLine(line, 1) },
		"LineAfter 0": func(line string) (string, bool) { return impl.LineAfter(line, 3, 0) },
		"LineAfter 9": func(line string) (string, bool) { return impl.LineAfter(line, 3, 9) },
	}
	for _, line := range someLines() {
		for name, call := range texts {
			result := sure(call(line))
			same(t, len(result), len(line), "the blocks of", name, line)
			// One byte is in the memory that the runtime keeps for all bytes.
			if len(result) > 1 && shareMemory(result, line) {
				t.Error(name, "shares memory with", line)
			}
		}
	}
}

// TestLineCallsAreRepeated checks that a call leaves nothing behind for the next one, be it one of another line or another gap.
func TestLineCallsAreRepeated(t *testing.T) {
	lines := append([]string{"TT..", "T", ".", "TT.....", "TTT..."}, greatLines()[:12]...)
	all := func() string {
		var results []string
		for _, line := range lines {
			for _, gap := range allGaps {
				for name, call := range gapCalls {
					answer := call(line, gap)
					results = append(results, name+" "+line+" "+answer.value)
				}
			}
		}
		slices.Sort(results)
		return strings.Join(results, "\n")
	}
	first := all()
	for range 5 {
		same(t, all(), first, "all calls again")
	}
}
