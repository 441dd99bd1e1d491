package tests

import (
	"slices"
	"strings"
	"testing"

	"loop.example/g01217/impl"
)

// TestExampleOfSets is the chapter's example.
func TestExampleOfSets(t *testing.T) {
	same(t, got(impl.CountRingsFrom(box(0, 8))), gives(2), "CountRingsFrom of 0 and 8")
	same(t, got(impl.CountTracks(box(0, 8))), gives(256), "CountTracks of 0 and 8")
	same(t, listed(impl.RingsFrom(box(0, 8))), gives("LLLLLLLL"), "RingsFrom of 0 and 8")
	same(t, got(impl.BoxOf("SLLLLSLLLL")), gives(box(2, 8)), "BoxOf SLLLLSLLLL")
	same(t, got(impl.EnoughFor([]string{"SLLLLSLLLL", "RRR"})), gives(box(2, 8)), "EnoughFor")
	same(t, got(impl.CountTracks(box(3, 0))), gives(1), "CountTracks of 3 and 0")
	same(t, got(impl.CountEnds(box(3, 0))), gives(1), "CountEnds of 3 and 0")
	same(t, impl.MaxBox, 12, "MaxBox")
}

func TestIsBox(t *testing.T) {
	wanted := map[impl.Box]bool{
		box(0, 0): true, box(0, 1): true, box(1, 0): true, box(40, 0): true, box(0, 40): true, box(20, 20): true, box(1, 39): true,
		box(41, 0): false, box(0, 41): false, box(20, 21): false, box(21, 20): false, box(40, 1): false, box(1, 40): false,
		box(-1, 0): false, box(0, -1): false, box(-1, 1): false, box(1, -1): false, box(41, -1): false, box(-1, 41): false,
	}
	for b, want := range wanted {
		same(t, impl.IsBox(b), want, "IsBox", b)
	}
	for straights := -45; straights <= 45; straights++ {
		for curves := -45; curves <= 45; curves++ {
			same(t, impl.IsBox(box(straights, curves)), modelIsBox(box(straights, curves), 40), "IsBox", straights, curves)
		}
	}
	for _, b := range noBoxes() {
		same(t, impl.IsBox(b), false, "IsBox", b)
	}
}

func TestBoxOf(t *testing.T) {
	wanted := map[string]impl.Box{
		"": box(0, 0), "S": box(1, 0), "L": box(0, 1), "R": box(0, 1), "LR": box(0, 2), "SLR": box(1, 2), "RSSLS": box(3, 2),
		"LLLLLLLL": box(0, 8), strings.Repeat("S", 40): box(40, 0), strings.Repeat("R", 40): box(0, 40), repeated("S", 13, "L", 27): box(13, 27),
	}
	for track, want := range wanted {
		same(t, got(impl.BoxOf(track)), gives(want), "BoxOf", track)
	}
	for _, track := range someTracks() {
		same(t, got(impl.BoxOf(track)), gives(modelUses(track)), "BoxOf", track)
	}
}

// lackings are boxes and tracks, with the pieces that the boxes lack for them.
var lackings = []struct {
	box   impl.Box
	track string
	lacks impl.Box
}{
	{box(0, 0), "", box(0, 0)},
	{box(3, 3), "", box(0, 0)},
	{box(40, 0), "", box(0, 0)},
	// Laid whole.
	{box(1, 2), "LSR", box(0, 0)},
	{box(2, 8), "SLLLLSLLLL", box(0, 0)},
	{box(0, 40), repeated("L", 20, "R", 20), box(0, 0)},
	// Laid, with pieces left: curves are laid to any side.
	{box(2, 2), "LSR", box(0, 0)},
	{box(1, 3), "RSR", box(0, 0)},
	{box(5, 35), "SL", box(0, 0)},
	// One straight, one curve, or both are not there.
	{box(0, 2), "LSR", box(1, 0)},
	{box(1, 1), "LSR", box(0, 1)},
	{box(0, 1), "LSR", box(1, 1)},
	{box(0, 40), "S", box(1, 0)},
	{box(40, 0), "R", box(0, 1)},
	// What there is too much of does not stand in for what there is not.
	{box(10, 1), "SLRSL", box(0, 2)},
	{box(1, 10), "SSSLS", box(3, 0)},
	{box(0, 0), "SLLLLSLLLL", box(2, 8)},
	{box(0, 0), strings.Repeat("S", 40), box(40, 0)},
	{box(0, 0), strings.Repeat("R", 40), box(0, 40)},
	{box(7, 33), repeated("S", 33, "L", 7), box(26, 0)},
	{box(3, 4), repeated("S", 20, "R", 20), box(17, 16)},
}

func TestCanLayAndMissingFor(t *testing.T) {
	for _, row := range lackings {
		same(t, got(impl.MissingFor(row.box, row.track)), gives(row.lacks), "MissingFor", row.box, row.track)
		same(t, got(impl.CanLay(row.box, row.track)), gives(row.lacks == box(0, 0)), "CanLay", row.box, row.track)
	}
	counts := map[bool]int{}
	boxes := append(boxesUpTo(6), boxesOf(40)...)
	for i, track := range someTracks() {
		for k, b := range boxes {
			if (i+k)%3 == 0 {
				continue
			}
			lacks := modelLacks(b, track)
			counts[lacks == box(0, 0)]++
			same(t, got(impl.MissingFor(b, track)), gives(lacks), "MissingFor", b, track)
			same(t, got(impl.CanLay(b, track)), gives(lacks == box(0, 0)), "CanLay", b, track)
		}
	}
	if counts[true] < 1000 || counts[false] < 1000 {
		t.Error("there are too few tracks of one sort:", counts)
	}
}

// TestTracksAreLaidFromBoxesThatLackNothing holds CanLay against MissingFor, and lays tracks from boxes to which what they lack is added.
func TestTracksAreLaidFromBoxesThatLackNothing(t *testing.T) {
	for i, track := range someTracks() {
		for k, b := range append(boxesUpTo(5), boxesOf(39)...) {
			if (i+k)%5 == 0 {
				continue
			}
			missing := sure(impl.MissingFor(b, track))
			same(t, got(impl.CanLay(b, track)), gives(missing == box(0, 0)), "CanLay", b, track)
			if full, ok := impl.AddBoxes(b, missing); ok {
				same(t, got(impl.CanLay(full, track)), gives(true), "CanLay", full, track)
				same(t, got(impl.MissingFor(full, track)), gives(box(0, 0)), "MissingFor", full, track)
			}
		}
		whole := sure(impl.BoxOf(track))
		same(t, got(impl.CanLay(whole, track)), gives(true), "CanLay of BoxOf", track)
		same(t, got(impl.MissingFor(box(0, 0), track)), gives(whole), "MissingFor of no pieces", track)
	}
}

// enoughs are lists of tracks, with the answers of EnoughFor.
var enoughs = []struct {
	name   string
	tracks []string
	want   answer[impl.Box]
}{
	{"nil", nil, gives(box(0, 0))},
	{"no tracks", []string{}, gives(box(0, 0))},
	{"one without pieces", []string{""}, gives(box(0, 0))},
	{"one", []string{"SLLLLSLLLL"}, gives(box(2, 8))},
	{"one of 40 pieces", []string{repeated("S", 15, "R", 25)}, gives(box(15, 25))},
	{"two that are laid one at a time", []string{"SSL", "SSL"}, gives(box(2, 1))},
	{"curves to both sides", []string{"LLL", "RR"}, gives(box(0, 3))},
	{"a straight one and one with curves", []string{"SSSSS", "LRLRLR"}, gives(box(5, 6))},
	{"a longer one before a shorter one", []string{"SSLSSL", "S", ""}, gives(box(4, 2))},
	{"a shorter one before a longer one", []string{"", "S", "SSLSSL"}, gives(box(4, 2))},
	{"straights from one and curves from another", []string{"SSL", "SLLLL", "SSSR"}, gives(box(3, 4))},
	{"20 equal ones", slices.Repeat([]string{"SR"}, 20), gives(box(1, 1))},
	{"20 without pieces", slices.Repeat([]string{""}, 20), gives(box(0, 0))},
	{"the last one of 20", append(slices.Repeat([]string{"S"}, 19), "LLLSSS"), gives(box(3, 3))},
	{"21 equal ones", slices.Repeat([]string{"SR"}, 21), failsAs[impl.Box]()},
	{"21 without pieces", slices.Repeat([]string{""}, 21), failsAs[impl.Box]()},
	{"very many", slices.Repeat([]string{""}, 1000), failsAs[impl.Box]()},
	{"just enough", []string{strings.Repeat("S", 39), "L"}, gives(box(39, 1))},
	{"one piece too many", []string{strings.Repeat("S", 40), "L"}, failsAs[impl.Box]()},
	{"one straight too many", []string{strings.Repeat("R", 40), "", "S"}, failsAs[impl.Box]()},
	{"halves", []string{strings.Repeat("S", 20), strings.Repeat("L", 20)}, gives(box(20, 20))},
	{"more than halves", []string{strings.Repeat("S", 20), strings.Repeat("L", 21)}, failsAs[impl.Box]()},
	{"twice as many as there may be", []string{strings.Repeat("S", 40), strings.Repeat("L", 40)}, failsAs[impl.Box]()},
	{"one that is no track", []string{"X"}, failsAs[impl.Box]()},
	{"the first one is no track", []string{"s", "S"}, failsAs[impl.Box]()},
	{"the last one of 20 is no track", append(slices.Repeat([]string{"S"}, 19), "SS "), failsAs[impl.Box]()},
	{"one with too many pieces", []string{"L", strings.Repeat("S", 41)}, failsAs[impl.Box]()},
}

func TestEnoughFor(t *testing.T) {
	for _, row := range enoughs {
		same(t, got(impl.EnoughFor(row.tracks)), row.want, "EnoughFor", row.name)
	}
}

// someLists are lists of up to 20 tracks, short ones and long ones.
func someLists() [][]string {
	next := diceFrom(67)
	all := someTracks()
	long := longTracks()
	lists := [][]string{nil}
	for i := range 2000 {
		var list []string
		for range i % 21 {
			list = append(list, all[next(len(all))])
		}
		if i%3 == 0 {
			list = append(list[:len(list)/2:len(list)/2], long[next(len(long))])
		}
		lists = append(lists, list)
	}
	return lists
}

func TestEnoughForLikeTheModel(t *testing.T) {
	counts := map[bool]int{}
	for _, tracks := range someLists() {
		want := modelEnough(tracks)
		counts[want.ok]++
		same(t, got(impl.EnoughFor(tracks)), want, "EnoughFor", tracks)
		for i, j := 0, len(tracks)-1; i < j; i, j = i+1, j-1 {
			tracks[i], tracks[j] = tracks[j], tracks[i]
		}
		same(t, got(impl.EnoughFor(tracks)), want, "EnoughFor the other way round", tracks)
	}
	if counts[true] < 500 || counts[false] < 100 {
		t.Error("there are too few lists of one sort:", counts)
	}
}

// TestEnoughIsLeast checks that each track is laid from the box, and that from one with a piece less not all are.
func TestEnoughIsLeast(t *testing.T) {
	areAllLaid := func(b impl.Box, tracks []string) bool {
		return !slices.ContainsFunc(tracks, func(track string) bool { return !sure(impl.CanLay(b, track)) })
	}
	for _, tracks := range someLists() {
		b, ok := impl.EnoughFor(tracks)
		if !ok {
			continue
		}
		same(t, areAllLaid(b, tracks), true, "all are laid from", b, tracks)
		if b.Straights > 0 {
			same(t, areAllLaid(box(b.Straights-1, b.Curves), tracks), false, "all are laid with a straight less than", b, tracks)
		}
		if b.Curves > 0 {
			same(t, areAllLaid(box(b.Straights, b.Curves-1), tracks), false, "all are laid with a curve less than", b, tracks)
		}
	}
}

func TestAddBoxes(t *testing.T) {
	rows := []struct {
		a, b impl.Box
		want answer[impl.Box]
	}{
		{box(0, 0), box(0, 0), gives(box(0, 0))},
		{box(1, 2), box(30, 4), gives(box(31, 6))},
		{box(0, 0), box(7, 9), gives(box(7, 9))},
		// Just as many as there may be, and one more.
		{box(40, 0), box(0, 0), gives(box(40, 0))},
		{box(20, 0), box(0, 20), gives(box(20, 20))},
		{box(10, 10), box(10, 10), gives(box(20, 20))},
		{box(39, 0), box(0, 1), gives(box(39, 1))},
		{box(40, 0), box(0, 1), failsAs[impl.Box]()},
		{box(40, 0), box(1, 0), failsAs[impl.Box]()},
		{box(0, 20), box(0, 21), failsAs[impl.Box]()},
		{box(10, 10), box(10, 11), failsAs[impl.Box]()},
		{box(20, 20), box(20, 20), failsAs[impl.Box]()},
		{box(0, 40), box(40, 0), failsAs[impl.Box]()},
	}
	for _, row := range rows {
		same(t, got(impl.AddBoxes(row.a, row.b)), row.want, "AddBoxes", row.a, row.b)
		same(t, got(impl.AddBoxes(row.b, row.a)), row.want, "AddBoxes", row.b, row.a)
	}
	for i, a := range boxesUpTo(40) {
		for k, b := range boxesUpTo(40) {
			if (i+k)%7 == 0 {
				sum := box(a.Straights+b.Straights, a.Curves+b.Curves)
				want := orNone(modelIsBox(sum, 40), func() answer[impl.Box] { return gives(sum) })
				same(t, got(impl.AddBoxes(a, b)), want, "AddBoxes", a, b)
			}
		}
	}
}

// TestJoinedTracksUseSums checks that a box for two tracks one behind the other is the sum of theirs.
func TestJoinedTracksUseSums(t *testing.T) {
	tracks := someTracks()
	for i, a := range tracks {
		b := tracks[(i*31+17)%len(tracks)]
		joined, ok := impl.JoinTracks(a, b)
		sum, isBox := impl.AddBoxes(sure(impl.BoxOf(a)), sure(impl.BoxOf(b)))
		same(t, isBox, ok, "AddBoxes succeeds", a, b)
		if ok {
			same(t, got(impl.BoxOf(joined)), gives(sum), "BoxOf", joined)
		}
	}
}

func TestPriceOf(t *testing.T) {
	rows := []struct {
		box             impl.Box
		straight, curve int
		want            int
	}{
		{box(0, 0), 1000, 1000, 0},
		{box(2, 8), 3, 5, 46},
		{box(2, 8), 0, 1, 8},
		{box(2, 8), 1, 0, 2},
		{box(2, 8), 0, 0, 0},
		{box(40, 0), 1000, 7, 40000},
		{box(0, 40), 7, 1000, 40000},
		{box(20, 20), 1000, 1000, 40000},
		{box(1, 0), 1000, 0, 1000},
		{box(0, 1), 1000, 0, 0},
	}
	for _, row := range rows {
		same(t, got(impl.PriceOf(row.box, row.straight, row.curve)), gives(row.want), "PriceOf", row.box, row.straight, row.curve)
	}
	for _, b := range boxesUpTo(40) {
		for _, straight := range somePrices {
			for _, curve := range somePrices {
				want := gives(modelPrice(b, straight, curve))
				same(t, got(impl.PriceOf(b, straight, curve)), want, "PriceOf", b, straight, curve)
			}
		}
	}
}

// TestPricesOfSums checks that the price of a sum is the sum of the prices.
func TestPricesOfSums(t *testing.T) {
	for i, a := range boxesUpTo(20) {
		for k, b := range boxesUpTo(20) {
			straight, curve := somePrices[(i+k)%len(somePrices)], somePrices[(i*5+k*3)%len(somePrices)]
			sum := sure(impl.AddBoxes(a, b))
			want := sure(impl.PriceOf(a, straight, curve)) + sure(impl.PriceOf(b, straight, curve))
			same(t, got(impl.PriceOf(sum, straight, curve)), gives(want), "PriceOf", a, b, straight, curve)
		}
	}
}
