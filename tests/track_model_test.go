package tests

import (
	"regexp"
	"strconv"
	"strings"

	"loop.example/g01217/impl"
)

// The model lays tracks with powers of z that are never reduced, and spells runs from the front, so that the program can be compared with it.

// modelPower adds k times z^h to p, h any number.
func modelPower(p *impl.Point, h int, k int) {
	places := []*int{&p.A, &p.B, &p.C, &p.D}
	turn := ((h % 8) + 8) % 8
	if turn > 3 {
		k = -k
	}
	*places[turn%4] += k
}

// modelLay lays a piece behind p with the heading h, which is not reduced modulo 8.
func modelLay(p *impl.Point, h *int, piece rune) {
	switch piece {
	case 'S':
		modelPower(p, *h, 1)
	case 'L':
		modelPower(p, *h-1, 1)
		modelPower(p, *h-2, -1)
		*h++
	case 'R':
		modelPower(p, *h+1, 1)
		modelPower(p, *h+2, -1)
		*h--
	}
}

// modelLaid returns the joints of a track, and the headings there.
func modelLaid(track string) []lead {
	p, h := pt(0, 0, 0, 0), 0
	list := []lead{{p, 0}}
	for _, piece := range track {
		modelLay(&p, &h, piece)
		list = append(list, lead{p, ((h % 8) + 8) % 8})
	}
	return list
}

// modelMeetings returns all pairs of joints at one point, sorted by the second one by the way they are found.
func modelMeetings(track string) [][2]int {
	var pairs [][2]int
	laid := modelLaid(track)
	for j := range laid {
		for i := 0; i < j; i++ {
			if laid[i].to == laid[j].to {
				pairs = append(pairs, [2]int{i, j})
			}
		}
	}
	return pairs
}

var aRun = regexp.MustCompile(`^(S+|L+|R+)`)

func modelRuns(track string) string {
	if track == "" {
		return "-"
	}
	text := ""
	for track != "" {
		run := aRun.FindString(track)
		text += run[:1]
		if len(run) > 1 {
			text += strconv.Itoa(len(run))
		}
		track = track[len(run):]
	}
	return text
}

var (
	someRuns = regexp.MustCompile(`^([SLR]([2-9]|[1-9][0-9])?)+$`)
	inOneRun = regexp.MustCompile(`S[0-9]*S|L[0-9]*L|R[0-9]*R`)
	eachRun  = regexp.MustCompile(`([SLR])([0-9]*)`)
)

// modelParse is the answer of ParseRuns.
func modelParse(s string) answer[string] {
	if s == "-" {
		return gives("")
	}
	if !someRuns.MatchString(s) || inOneRun.MatchString(s) {
		return failsAs[string]()
	}
	track := ""
	for _, run := range eachRun.FindAllStringSubmatch(s, -1) {
		length, err := strconv.Atoi(run[2])
		if err != nil {
			length = 1
		}
		track += strings.Repeat(run[1], length)
	}
	if len(track) > 40 {
		return failsAs[string]()
	}
	return gives(track)
}

// tracksUpTo are all tracks of at most n pieces.
func tracksUpTo(n int) []string { return wordsUpTo(n, "LRS") }

// wordsUpTo are all texts of at most n of these letters, the shorter ones first.
func wordsUpTo(n int, letters string) []string {
	list, last := []string{""}, []string{""}
	for range n {
		var next []string
		for _, word := range last {
			for _, letter := range letters {
				next = append(next, word+string(letter))
			}
		}
		list, last = append(list, next...), next
	}
	return list
}

// longTracks are tracks of up to MaxPieces pieces: in one direction, around several times, and mixed ones.
func longTracks() []string {
	list := []string{
		strings.Repeat("S", 40), strings.Repeat("L", 40), strings.Repeat("R", 40), strings.Repeat("SL", 20),
		strings.Repeat("LR", 20), strings.Repeat("S", 39), strings.Repeat("R", 39) + "L", "L" + strings.Repeat("S", 39),
		strings.Repeat("LLLLLLLLRRRRRRRR", 2) + "SSSSSSSS", strings.Repeat("SSLL", 10), "SLLLLLLLLLLLLSLLLL",
	}
	seed := uint32(7)
	for length := 8; length <= 40; length++ {
		var track strings.Builder
		for range length {
			seed = seed*1664525 + 1013904223
			track.WriteByte("SLR"[seed>>16%3])
		}
		list = append(list, track.String())
	}
	return list
}

// someTracks are short tracks and long ones.
func someTracks() []string { return append(tracksUpTo(5), longTracks()...) }

// noTracks are too long, or have something else than a piece at any place.
func noTracks() []string {
	list := []string{
		strings.Repeat("S", 41), strings.Repeat("L", 41), strings.Repeat("SLR", 14), strings.Repeat("R", 100000),
		" ", "s", "l", "r", "-", "S2", "2S", "T", "M", "K", "Q", "S L", " SL", "SL ", "SL\n", "SxL", "\x00", "SL\x00", "S,L",
		"\xff", "S\xd0", "Ѕ", "Ｌ", "SĹL", "S\u0301", strings.Repeat("S", 39) + "X", "X" + strings.Repeat("S", 39),
		strings.Repeat("L", 20) + "?" + strings.Repeat("L", 19), strings.Repeat("S", 40) + " ", strings.Repeat("x", 100000),
	}
	for _, other := range wordsUpTo(1, "\x01 !*-/09:@AKMNOPQTUZ[_`aklmqrstz{~\x7f")[1:] {
		list = append(list, other, "S"+other, other+"L", "L"+other+"R")
	}
	return list
}
