package tests

import (
	"strings"
	"testing"

	"loop.example/g01217/impl"
)

// followed are lines with those behind ticks, each with its signals.
var followed = []struct {
	gap     int
	lines   string
	signals string
}{
	// The example of the chapter with each gap: with 2 the second train moves once, with 3 there are too few blocks.
	{1, "TT.. T.T. .T.T T.T. .T.T", "rg.. g.g. .g.g g.g. .g.g"},
	{2, "TT.. T.T. T.T. T.T.", "rg.. r.r. r.r. r.r."},
	{3, "TT.. TT.. TT..", "rr.. rr.. rr.."},

	// From the last block to the first one.
	{1, "...T T... .T..", "...g g... .g.."},
	{2, "..T T.. .T. ..T", "..g g.. .g. ..g"},
	{3, "...T T... .T..", "...g g... .g.."},
	{1, "T..T .T.T T.T. .T.T", "g..r .g.g g.g. .g.g"},
	{2, "T..T .T.T .T.T", "g..r .r.r .r.r"},
	{3, "T..T T..T", "r..r r..r"},
	{3, "..T....T ...T...T T...T...", "..g....r ...g...g g...g..."},

	{1, "TTT. TT.T T.TT .TTT TTT.", "rrg. rg.r g.rr .rrg rrg."},
	{1, "TTT.. TT.T. T.T.T .T.TT T.TT. .TT.T TT.T.", "rrg.. rg.g. g.g.r .g.rg g.rg. .rg.g rg.g."},
	{1, "TTT... TT.T.. T.T.T. .T.T.T T.T.T.", "rrg... rg.g.. g.g.g. .g.g.g g.g.g."},
	{2, "TTT... TT.T.. TT..T. T.T.T. T.T.T.", "rrg... rr.g.. rg..r. r.r.r. r.r.r."},
	{2, "TT.... T.T... T..T.. .T..T. ..T..T T..T..", "rg.... r.g... g..g.. .g..g. ..g..g g..g.."},
	{3, "TT...... T.T..... T..T.... T...T... .T...T..", "rg...... r.g..... r..g.... g...g... .g...g.."},
	{3, "TT..... T.T.... T..T... T...T.. .T..T.. .T...T. ..T..T. ..T...T ...T..T T..T...", "rg..... r.g.... r..g... g...r.. .r..g.. .g...r. ..r..g. ..g...r ...r..g r..g..."},
}

func TestFollowedLines(t *testing.T) {
	for _, row := range followed {
		lines, signals := strings.Fields(row.lines), strings.Fields(row.signals)
		for ticks, line := range lines {
			same(t, got(impl.LineAfter(lines[0], row.gap, ticks)), gives(line), "LineAfter", lines[0], row.gap, ticks)
			same(t, got(impl.SignalsOf(line, row.gap)), gives(signals[ticks]), "SignalsOf", line, row.gap)
			if ticks > 0 {
				same(t, got(impl.TickLine(lines[ticks-1], row.gap)), gives(line), "TickLine", lines[ticks-1], row.gap)
			}
			so := strings.Join(signals[:ticks], "")
			same(t, got(impl.MovesIn(lines[0], row.gap, ticks)), gives(strings.Count(so, "g")), "MovesIn", lines[0], row.gap, ticks)
			same(t, got(impl.WaitsIn(lines[0], row.gap, ticks)), gives(strings.Count(so, "r")), "WaitsIn", lines[0], row.gap, ticks)
		}
	}
}

// TestSignalsOfShortLines takes lines of one block, of two, and of fewer blocks than the gap, or as many, and lines without trains and full ones.
func TestSignalsOfShortLines(t *testing.T) {
	wanted := map[string][3]string{
		"T": {"r", "r", "r"}, ".": {".", ".", "."}, "TT": {"rr", "rr", "rr"}, "..": {"..", "..", ".."}, "T.": {"g.", "g.", "g."}, ".T": {".g", ".g", ".g"},
		"...": {"...", "...", "..."}, "T..": {"g..", "g..", "g.."}, ".T.": {".g.", ".g.", ".g."}, "..T": {"..g", "..g", "..g"},
		"TT.": {"rg.", "rr.", "rr."}, "T.T": {"g.r", "r.r", "r.r"}, ".TT": {".rg", ".rr", ".rr"}, "TTT": {"rrr", "rrr", "rrr"},
		"T...": {"g...", "g...", "g..."}, "T.T.": {"g.g.", "r.r.", "r.r."}, "T..T": {"g..r", "g..r", "r..r"}, "TT..": {"rg..", "rg..", "rr.."}, "TTT.": {"rrg.", "rrr.", "rrr."},
		"T....": {"g....", "g....", "g...."}, "T..T.": {"g..g.", "g..r.", "r..r."}, "TT...": {"rg...", "rg...", "rg..."}, "T...T": {"g...r", "g...r", "g...r"},
		"T...T..": {"g...g..", "g...g..", "g...r.."}, "..T....T": {"..g....g", "..g....g", "..g....r"}, "T..T..T.": {"g..g..g.", "g..g..r.", "r..r..r."},
		strings.Repeat(".", 24):             {strings.Repeat(".", 24), strings.Repeat(".", 24), strings.Repeat(".", 24)},
		strings.Repeat("T", 24):             {strings.Repeat("r", 24), strings.Repeat("r", 24), strings.Repeat("r", 24)},
		strings.Repeat(".", 23) + "T":       {strings.Repeat(".", 23) + "g", strings.Repeat(".", 23) + "g", strings.Repeat(".", 23) + "g"},
		"T" + strings.Repeat(".", 22) + "T": {"g" + strings.Repeat(".", 22) + "r", "g" + strings.Repeat(".", 22) + "r", "g" + strings.Repeat(".", 22) + "r"},
	}
	for line, signals := range wanted {
		for _, gap := range allGaps {
			same(t, got(impl.SignalsOf(line, gap)), gives(signals[gap-1]), "SignalsOf", line, gap)
		}
	}
}

// TestLinesThatStay takes lines on which no train moves in any number of ticks.
func TestLinesThatStay(t *testing.T) {
	lines := []string{"T", ".", "TT", "..", "TTT", "...", strings.Repeat("T", 24), strings.Repeat(".", 24)}
	for _, line := range lines {
		trains := strings.Count(line, "T")
		for _, gap := range allGaps {
			same(t, got(impl.TickLine(line, gap)), gives(line), "TickLine", line, gap)
			for _, ticks := range []int{0, 1, 2, 77, 9999, 10000} {
				same(t, got(impl.LineAfter(line, gap, ticks)), gives(line), "LineAfter", line, gap, ticks)
				same(t, got(impl.MovesIn(line, gap, ticks)), gives(0), "MovesIn", line, gap, ticks)
				same(t, got(impl.WaitsIn(line, gap, ticks)), gives(trains*ticks), "WaitsIn", line, gap, ticks)
			}
		}
	}
}

func TestSignalsLikeTheModel(t *testing.T) {
	for _, line := range someLines() {
		for _, gap := range allGaps {
			same(t, got(impl.SignalsOf(line, gap)), gives(modelSignals(line, gap)), "SignalsOf", line, gap)
			same(t, got(impl.TickLine(line, gap)), gives(modelTick(line, gap)), "TickLine", line, gap)
		}
	}
}

// TestOnlyGreenTrainsMove checks block by block that trains move with green signals alone, and that none is lost.
func TestOnlyGreenTrainsMove(t *testing.T) {
	for _, line := range someLines() {
		for _, gap := range allGaps {
			signals, behind := sure(impl.SignalsOf(line, gap)), sure(impl.TickLine(line, gap))
			same(t, got(impl.TrainsOn(behind)), got(impl.TrainsOn(line)), "TrainsOn behind a tick", line, gap)
			for i := range len(line) {
				next := (i + 1) % len(line)
				switch signals[i] {
				case 'g':
					same(t, behind[i:i+1]+behind[next:next+1], ".T", "a train that moves", line, gap, i)
				case 'r':
					same(t, behind[i:i+1], "T", "a train that waits", line, gap, i)
				default:
					same(t, line[i:i+1], ".", "a block without a signal", line, gap, i)
				}
			}
		}
	}
}

// TestLineAfterIsSingleTicks follows lines tick by tick, with the moves and waits on the way.
func TestLineAfterIsSingleTicks(t *testing.T) {
	for _, line := range someLines() {
		for _, gap := range allGaps {
			behind, moves, waits := line, 0, 0
			for ticks := range 2*len(line) + 5 {
				same(t, got(impl.LineAfter(line, gap, ticks)), gives(behind), "LineAfter", line, gap, ticks)
				same(t, got(impl.MovesIn(line, gap, ticks)), gives(moves), "MovesIn", line, gap, ticks)
				same(t, got(impl.WaitsIn(line, gap, ticks)), gives(waits), "WaitsIn", line, gap, ticks)
				signals := sure(impl.SignalsOf(behind, gap))
				moves += strings.Count(signals, "g")
				waits += strings.Count(signals, "r")
				behind = sure(impl.TickLine(behind, gap))
			}
		}
	}
}

func TestMovesAndWaitsAreAllTicks(t *testing.T) {
	for _, line := range someLines() {
		for _, gap := range allGaps {
			for _, ticks := range []int{0, 1, 2, 30, 61, 999, 9999, 10000} {
				moves, waits := sure(impl.MovesIn(line, gap, ticks)), sure(impl.WaitsIn(line, gap, ticks))
				same(t, moves+waits, len(modelPlaces(line))*ticks, "MovesIn and WaitsIn", line, gap, ticks)
			}
		}
	}
}

// TestMostTicks follows lines for up to the greatest number of ticks.
func TestMostTicks(t *testing.T) {
	for i, line := range append([]string{"T", "T.", "TT..", "TTT..", "TT.....", "..T....T"}, greatLines()...) {
		if i%5 != 0 && i > 8 {
			continue
		}
		for _, gap := range allGaps {
			lines := modelLines(line, gap, 10000)
			same(t, got(impl.LineAfter(line, gap, 10000)), gives(lines[10000]), "LineAfter", line, gap, 10000)
			same(t, got(impl.LineAfter(line, gap, 9999)), gives(lines[9999]), "LineAfter", line, gap, 9999)
			same(t, got(impl.LineAfter(line, gap, 5003)), gives(lines[5003]), "LineAfter", line, gap, 5003)
			same(t, got(impl.MovesIn(line, gap, 10000)), gives(modelMoves(lines[:10000], gap)), "MovesIn", line, gap, 10000)
			same(t, got(impl.MovesIn(line, gap, 5003)), gives(modelMoves(lines[:5003], gap)), "MovesIn", line, gap, 5003)
		}
	}
	same(t, got(impl.LineAfter("TT..", 1, 10000)), gives(".T.T"), "LineAfter")
	same(t, got(impl.MovesIn("TT..", 1, 10000)), gives(19999), "MovesIn")
	same(t, got(impl.WaitsIn("TT..", 1, 10000)), gives(1), "WaitsIn")
	same(t, got(impl.LineAfter("T"+strings.Repeat(".", 23), 3, 10000)), gives(strings.Repeat(".", 16)+"T"+strings.Repeat(".", 7)), "LineAfter")
	same(t, got(impl.MovesIn("T"+strings.Repeat(".", 23), 3, 10000)), gives(10000), "MovesIn")
	same(t, got(impl.WaitsIn(strings.Repeat("T", 24), 1, 10000)), gives(240000), "WaitsIn")
}
