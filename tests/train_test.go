package tests

import (
	"slices"
	"strings"
	"testing"

	"loop.example/g01217/impl"
)

func TestIsLine(t *testing.T) {
	for _, line := range someLines() {
		same(t, impl.IsLine(line), true, "IsLine", line)
	}
	for _, text := range noLines() {
		same(t, impl.IsLine(text), false, "IsLine", text[:min(len(text), 60)])
	}
	for n := range 60 {
		same(t, impl.IsLine(strings.Repeat("T", n)), 1 <= n && n <= impl.MaxBlocks, "IsLine of trains", n)
		same(t, impl.IsLine(strings.Repeat(".", n)), 1 <= n && n <= impl.MaxBlocks, "IsLine of empty blocks", n)
	}
	same(t, impl.MaxBlocks, 24, "MaxBlocks")
	same(t, impl.MaxTicks, 10000, "MaxTicks")
}

// TestEachByteInLines puts each byte at each place of a line.
func TestEachByteInLines(t *testing.T) {
	for at := range 4 {
		for b := range 256 {
			line := []byte("TT..")
			line[at] = byte(b)
			same(t, impl.IsLine(string(line)), b == 'T' || b == '.', "IsLine", string(line))
		}
	}
}

func TestTrainsOn(t *testing.T) {
	wanted := map[string]int{
		"T": 1, ".": 0, "TT": 2, "..": 0, "TT..": 2, "T.T.T": 3, strings.Repeat("T", 24): 24, strings.Repeat(".", 24): 0, strings.Repeat(".T", 12): 12,
	}
	for line, count := range wanted {
		same(t, got(impl.TrainsOn(line)), gives(count), "TrainsOn", line)
	}
	for _, line := range someLines() {
		same(t, got(impl.TrainsOn(line)), gives(len(modelPlaces(line))), "TrainsOn", line)
	}
}

func TestGapsOfLine(t *testing.T) {
	wanted := map[string]string{
		"T": "[0]", ".": "[]", "..": "[]", "T.": "[1]", ".T": "[1]", "TT": "[0 0]", "T..": "[2]", ".T.": "[2]", "TT..": "[0 2]", "..TT": "[0 2]", "T..T": "[2 0]",
		".TT.": "[0 2]", "T.T...": "[1 3]", "..T.T.T...": "[1 1 5]", "T...TT.": "[3 0 1]", strings.Repeat("T", 24): printed(make([]int, 24), true).value,
		strings.Repeat(".", 23) + "T": "[23]", "T" + strings.Repeat(".", 22) + "T": "[22 0]", strings.Repeat(".", 24): "[]",
	}
	for line, gaps := range wanted {
		same(t, printed(impl.GapsOfLine(line)), gives(gaps), "GapsOfLine", line)
	}
	for _, line := range someLines() {
		places := modelPlaces(line)
		gaps := sure(impl.GapsOfLine(line))
		same(t, len(gaps), len(places), "the number of gaps", line)
		for i, place := range places {
			next := places[(i+1)%len(places)]
			if next <= place {
				next += len(line)
			}
			same(t, gaps[i], next-place-1, "the gap", i, line)
		}
	}
}

// TestGapsTellSignals checks that a signal is green where there are enough empty blocks ahead, or all others.
func TestGapsTellSignals(t *testing.T) {
	for _, line := range someLines() {
		gaps := sure(impl.GapsOfLine(line))
		for _, gap := range allGaps {
			signals := sure(impl.SignalsOf(line, gap))
			for i, place := range modelPlaces(line) {
				alone := len(gaps) == 1 && len(line) > 1
				same(t, signals[place:place+1] == "g", gaps[i] >= gap || alone, "a green signal", line, gap, place)
			}
		}
	}
}

func TestHoleLine(t *testing.T) {
	wanted := map[string]string{
		"T": ".", ".": "T", "T.": "T.", ".T": ".T", "TT": "..", "TT..": "TT..", "TTT.": "T...", "T...": "TTT.", "T..T.": "T.TT.", "..TTT.": "T...TT",
		strings.Repeat("T", 24): strings.Repeat(".", 24), "T" + strings.Repeat(".", 23): strings.Repeat("T", 23) + ".",
	}
	for line, holes := range wanted {
		same(t, got(impl.HoleLine(line)), gives(holes), "HoleLine", line)
	}
	for _, line := range someLines() {
		holes := sure(impl.HoleLine(line))
		same(t, len(holes), len(line), "the blocks of HoleLine", line)
		for i := range len(line) {
			same(t, holes[len(line)-1-i] == '.', line[i] == 'T', "a hole for a train", line, i)
		}
		same(t, got(impl.HoleLine(holes)), gives(line), "HoleLine of HoleLine", line)
	}
}

// TestHolesMoveBack checks that with the gap 1 the ticks of the HoleLine are those of the line, and that there are as many moves.
func TestHolesMoveBack(t *testing.T) {
	for _, line := range someLines() {
		holes := sure(impl.HoleLine(line))
		behind, holesBehind := line, holes
		for ticks := range len(line) + 3 {
			same(t, holesBehind, sure(impl.HoleLine(behind)), "the holes behind ticks", line, ticks)
			same(t, got(impl.LineAfter(holes, 1, ticks)), got(impl.HoleLine(behind)), "LineAfter of HoleLine", line, ticks)
			same(t, got(impl.MovesIn(holes, 1, ticks)), got(impl.MovesIn(line, 1, ticks)), "MovesIn of HoleLine", line, ticks)
			behind, holesBehind = sure(impl.TickLine(behind, 1)), sure(impl.TickLine(holesBehind, 1))
		}
		same(t, periodOfLine(holes, 1), periodOfLine(line, 1), "PeriodOfLine of HoleLine", line)
	}
	// With a greater gap this is not so.
	same(t, got(impl.TickLine(sure(impl.HoleLine("T...")), 2)), gives("TTT."), "TickLine of HoleLine with the gap 2")
	same(t, got(impl.HoleLine(sure(impl.TickLine("T...", 2)))), gives("TT.T"), "HoleLine of TickLine with the gap 2")
}

func TestSpinLine(t *testing.T) {
	wanted := map[string][]string{
		"T": {"T"}, ".": {"."}, "T.": {"T.", ".T"}, "TT..": {"TT..", "T..T", "..TT", ".TT."}, "T.TT.": {"T.TT.", ".TT.T", "TT.T.", "T.T.T", ".T.TT"},
	}
	for line, spun := range wanted {
		for k, want := range spun {
			same(t, got(impl.SpinLine(line, k)), gives(want), "SpinLine", line, k)
		}
		same(t, got(impl.SpinLine(line, len(line))), failsAs[string](), "SpinLine", line, len(line))
		same(t, got(impl.SpinLine(line, -1)), failsAs[string](), "SpinLine", line, -1)
	}
	for _, line := range someLines() {
		spun := line
		for k := range len(line) {
			same(t, got(impl.SpinLine(line, k)), gives(spun), "SpinLine", line, k)
			spun = spun[1:] + spun[:1]
		}
		for _, k := range append(slices.Clone(someInts), len(line), len(line)+1, -len(line), 1<<32+1) {
			if k < 0 || k >= len(line) {
				same(t, got(impl.SpinLine(line, k)), failsAs[string](), "SpinLine", line, k)
			}
		}
	}
}

// TestSpunLinesTickSpun checks that the ticks of a spun line are the spun ticks of the line.
func TestSpunLinesTickSpun(t *testing.T) {
	for _, line := range someLines() {
		for _, gap := range allGaps {
			next, later := sure(impl.TickLine(line, gap)), sure(impl.LineAfter(line, gap, 17))
			for k := range len(line) {
				spun := sure(impl.SpinLine(line, k))
				same(t, got(impl.TickLine(spun, gap)), got(impl.SpinLine(next, k)), "TickLine of SpinLine", line, gap, k)
				same(t, got(impl.LineAfter(spun, gap, 17)), got(impl.SpinLine(later, k)), "LineAfter of SpinLine", line, gap, k)
				if k%5 == 1 {
					same(t, periodOfLine(spun, gap), periodOfLine(line, gap), "PeriodOfLine of SpinLine", line, gap, k)
				}
			}
		}
	}
}
