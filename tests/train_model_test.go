package tests

import (
	"slices"
	"strings"

	"loop.example/g01217/impl"
)

// The model keeps the places of the trains, and tells signals by how far it is from each train to each other one.

func modelPlaces(line string) []int {
	var places []int
	for i, block := range line {
		if block == 'T' {
			places = append(places, i)
		}
	}
	return places
}

// modelDrawn is the line of n blocks with trains at these places.
func modelDrawn(n int, places []int) string {
	blocks := strings.Split(strings.Repeat(".", n), "")
	for _, place := range places {
		blocks[place] = "T"
	}
	return strings.Join(blocks, "")
}

func modelIsGreen(line string, place int, gap int) bool {
	for _, other := range modelPlaces(line) {
		far := (other - place + len(line)) % len(line)
		if other != place && far <= gap {
			return false
		}
	}
	return len(line) > 1
}

func modelSignals(line string, gap int) string {
	signals := []byte(line)
	for _, place := range modelPlaces(line) {
		signals[place] = 'r'
		if modelIsGreen(line, place, gap) {
			signals[place] = 'g'
		}
	}
	return string(signals)
}

func modelTick(line string, gap int) string {
	places := modelPlaces(line)
	for i, place := range places {
		if modelIsGreen(line, place, gap) {
			places[i] = (place + 1) % len(line)
		}
	}
	return modelDrawn(len(line), places)
}

// modelLines are a line and those behind each of so many ticks.
func modelLines(line string, gap int, ticks int) []string {
	list := []string{line}
	for len(list) <= ticks {
		list = append(list, modelTick(list[len(list)-1], gap))
	}
	return list
}

// modelCourse are a line and those behind ticks, the last one of which is there before: the first line that comes again.
func modelCourse(line string, gap int) []string {
	list := []string{line}
	for {
		next := modelTick(list[len(list)-1], gap)
		again := slices.Contains(list, next)
		list = append(list, next)
		if again {
			return list
		}
	}
}

func modelPeriodOfLine(line string, gap int) [2]int {
	list := modelCourse(line, gap)
	last := len(list) - 1
	first := slices.Index(list, list[last])
	return [2]int{first, last - first}
}

// modelMoves counts the trains that move from each of these lines.
func modelMoves(lines []string, gap int) int {
	count := 0
	for _, line := range lines {
		count += strings.Count(modelSignals(line, gap), "g")
	}
	return count
}

func modelIsAllGreen(line string, gap int) bool {
	return !strings.Contains(modelSignals(line, gap), "r")
}

func modelFirstFree(line string, gap int) answer[int] {
	if !strings.Contains(line, "T") {
		return failsAs[int]()
	}
	for ticks, behind := range modelCourse(line, gap) {
		if modelIsAllGreen(behind, gap) {
			return gives(ticks)
		}
	}
	return failsAs[int]()
}

func modelIsStuck(line string, gap int) bool {
	return strings.Contains(line, "T") && modelMoves(modelCourse(line, gap), gap) == 0
}

func modelIsLine(line string) bool {
	return len(line) >= 1 && len(line) <= 24 && strings.Count(line, "T")+strings.Count(line, ".") == len(line)
}

// linesOfBlocks are all lines of n blocks.
func linesOfBlocks(n int) []string {
	all := wordsUpTo(n, "T.")
	return all[len(all)-1<<n:]
}

func smallLines() []string { return wordsUpTo(8, "T.")[1:] }

// greatLines are lines of 9 to 24 blocks with few trains and with many: in one row, spread, and anywhere.
func greatLines() []string {
	list := []string{
		strings.Repeat("T", 24), strings.Repeat(".", 24), strings.Repeat("T", 23) + ".", "." + strings.Repeat("T", 23),
		strings.Repeat(".", 23) + "T", "T" + strings.Repeat(".", 23), strings.Repeat("T.", 12), strings.Repeat("..T", 8), strings.Repeat(".T..", 6),
	}
	next := diceFrom(29)
	for n := 9; n <= 24; n++ {
		for _, trains := range []int{2, n / 4, n / 3, n / 2, n - 2} {
			list = append(list, strings.Repeat("T", trains)+strings.Repeat(".", n-trains))
		}
		for percent := 10; percent <= 90; percent += 20 {
			line := ""
			for range n {
				if next(100) < percent {
					line += "T"
				} else {
					line += "."
				}
			}
			list = append(list, line)
		}
	}
	return list
}

func someLines() []string { return append(smallLines(), greatLines()...) }

var allGaps = []int{1, 2, 3}

// noLines are empty or too long, or have something else than a train or an empty block at any place.
func noLines() []string {
	list := []string{
		"", strings.Repeat("T", 25), strings.Repeat(".", 25), strings.Repeat("T.", 12) + ".", strings.Repeat("T", 48), strings.Repeat(".", 256), strings.Repeat("T", 100000),
		"T\n", "T.\x00", "\x00", "T T", " TT..", "TT.. ", "tt..", "TT,,", "T--", "T_", "T·", "Т.", "Ｔ.", "T．", "\xff", "T\xd0", "rg..", "TT..:1", "4",
		strings.Repeat("T", 23) + "x", "x" + strings.Repeat(".", 23), strings.Repeat(".", 24) + "\n", strings.Repeat("x", 24), strings.Repeat("x", 100000),
	}
	for _, other := range wordsUpTo(1, "\x01 !*-/09:,;@OSUXLR[_`ogrst{~\x7f")[1:] {
		list = append(list, other, "T"+other, other+".", "T"+other+".")
	}
	return list
}

// noGaps are numbers that are no gaps.
func noGaps() []int {
	return append(slices.DeleteFunc(slices.Clone(someInts), func(n int) bool { return 1 <= n && n <= 3 }), 4, 5, 24, -2, -3, 1<<32+1, 1<<32+3)
}

// noTicks are numbers of ticks that are too small or too great.
func noTicks() []int {
	return append(slices.DeleteFunc(slices.Clone(someInts), func(n int) bool { return 0 <= n && n <= 10000 }), 10001, 10002, 20000, -10000, 1<<32+1)
}

// periodOfLine is the answer of PeriodOfLine with both numbers as one value.
func periodOfLine(line string, gap int) answer[[2]int] {
	before, period, ok := impl.PeriodOfLine(line, gap)
	return answer[[2]int]{[2]int{before, period}, ok}
}
