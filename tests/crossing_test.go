package tests

import (
	"slices"
	"strings"
	"testing"

	"loop.example/g01217/impl"
)

func TestCountCrossings(t *testing.T) {
	wanted := map[string]int{
		"": 0, "S": 0, "SS": 0, "LR": 0, "SSS": 0, "SLR": 0, strings.Repeat("S", 40): 0, strings.Repeat("LR", 20): 0,
		// The first chord and the last one of a closed track are next to each other.
		"LLLLLLL": 0, "LLLLLLLL": 0, "RRRRRRRR": 0, "SLLLLSLLLL": 0, "LLSLLLLSLL": 0,
		// Those of a track that comes back to 0 with another heading are not.
		"SLLLLLLS": 1, "SRRRRRRS": 1,
		// The ninth chord is the first one again; it meets this and the second one, and the eighth one meets the first one.
		"LLLLLLLLL": 3,
		// Of sixteen chords each meets itself and the two beside it, the other time around.
		strings.Repeat("L", 16): 24, strings.Repeat("R", 16): 24, strings.Repeat("L", 17): 30,
		// Four chords at one joint.
		"LLLLLLSSRRRRRRSS": 4, "LLLLLLLLRRRRRRRR": 4, "SSLLLLLLSSS": 4,
		// Chords that cross between their joints, of a closed track and of another one.
		"LLLLLLLRSSRRRRRSSR": 1, "LLLLLLLRRRLLLLLLLRRR": 2, "SSSLLLLLLLS": 1, "SSSLLLLLLL": 0,
	}
	for track, want := range wanted {
		same(t, modelCountCrossings(track), want, "crossings in the model", track)
		same(t, got(impl.CountCrossings(track)), gives(want), "CountCrossings", track)
		same(t, got(impl.CountCrossings(sure(impl.MirrorTrack(track)))), gives(want), "CountCrossings mirrored", track)
	}
}

// crossingTracks are closed tracks and others, short ones and long ones, with crossings and without.
func crossingTracks() []string {
	list := append(tracksUpTo(4), wordsUpTo(9, "LS")...)
	return append(append(list, areaTracks()...), roundTracks()[:150]...)
}

// areaTracks are closed tracks: of each winding, and some that are not plain, or not simple, or not convex.
func areaTracks() []string {
	return append(closedOnes(),
		"LLLLLLLRRRSRRRRRLS", "LLLLLLLRSSRRRRRSSR", "LLLLLLLRLLRRRRRRLRRR", "LLLLLLLRRRLLLLLLLRRR", "RRRRRRRLLLRRRRRRRLLL",
		"LLLLLLRRRLLLLLLLRRRL", "LLLLLLRRRRLLLLLLSSSS", "LLLLLLSRRSLLLLLLSRRS", "LLLLLRLLRLLLLLRR", "LLLLLRLSSLLLLSSR",
		"LLLLRRLLLLSSLLSS", "LLLLRSLSLLLSLRLS",
	)
}

func TestCountCrossingsLikeTheModel(t *testing.T) {
	counts := map[bool]int{}
	for _, track := range crossingTracks() {
		want := modelCountCrossings(track)
		counts[want > 0]++
		same(t, got(impl.CountCrossings(track)), gives(want), "CountCrossings", track)
	}
	if counts[true] < 200 || counts[false] < 200 {
		t.Error("there are too few tracks of one sort:", counts)
	}
}

// TestCrossingsOfBackwardAndSpunTracks checks that chords that meet do so from each end, and those of a closed track from each beginning.
func TestCrossingsOfBackwardAndSpunTracks(t *testing.T) {
	for _, track := range crossingTracks() {
		same(t, got(impl.CountCrossings(sure(impl.BackTrack(track)))), got(impl.CountCrossings(track)), "CountCrossings backward", track)
	}
	for _, track := range areaTracks() {
		crossings := got(impl.CountCrossings(track))
		for k := 0; k < len(track); k += 3 {
			same(t, got(impl.CountCrossings(sure(impl.SpinTrack(track, k)))), crossings, "CountCrossings spun", track, k)
		}
	}
}

func TestIsSimple(t *testing.T) {
	rows := []struct {
		track  string
		plain  bool
		simple bool
	}{
		{"LLLLLLLL", true, true},
		{"RRRRRRRR", true, true},
		{"SLLLLSLLLL", true, true},
		{"LLLLLRLSSLLLLSSR", true, true},
		// Plain, but with chords that cross; the second one goes around once nevertheless.
		{"LLLLLLLRSSRRRRRSSR", true, false},
		{"LLLLLLLRRRLLLLLLLRRR", true, false},
		// Not plain; the last one goes around once nevertheless.
		{"LLLLLLLLRRRRRRRR", false, false},
		{"LLLLLLLLLLLLLLLL", false, false},
		{"LLLLLLSSRRRRRRSS", false, false},
		{"LLLLLLRRRRLLLLLLSSSS", false, false},
	}
	for _, row := range rows {
		for k := range row.track {
			spun := sure(impl.SpinTrack(row.track, k))
			same(t, got(impl.IsPlain(spun)), gives(row.plain), "IsPlain", spun)
			same(t, got(impl.IsSimple(spun)), gives(row.simple), "IsSimple", spun)
			same(t, got(impl.IsSimple(sure(impl.MirrorTrack(spun)))), gives(row.simple), "IsSimple mirrored", spun)
			same(t, got(impl.IsSimple(sure(impl.BackTrack(spun)))), gives(row.simple), "IsSimple backward", spun)
		}
	}
}

// TestSimpleTracksGoAroundOnce checks that simple tracks have the winding 1 or -1, and no area that is lost.
func TestSimpleTracksGoAroundOnce(t *testing.T) {
	counts := map[bool]int{}
	for _, track := range areaTracks() {
		simple := sure(impl.IsSimple(track))
		same(t, simple, modelIsSimple(track), "IsSimple", track)
		counts[simple]++
		if !simple {
			continue
		}
		same(t, got(impl.IsPlain(track)), gives(true), "IsPlain of a simple track", track)
		winding := sure(impl.WindingOf(track))
		same(t, winding == 1 || winding == -1, true, "the winding of a simple track is 1 or -1", track, winding)
		same(t, got(impl.SignOfSurd(sure(impl.FourPolygon(track)))), gives(winding), "the sign of the area", track)
	}
	if counts[true] < 200 || counts[false] < 200 {
		t.Error("there are too few tracks of one sort:", counts)
	}
}

func TestIsConvexTrack(t *testing.T) {
	wanted := map[string]bool{
		"LLLLLLLL": true, "SLLLLSLLLL": true, "LLSLLSLLSLLS": true, strings.Repeat("LS", 8): true,
		// A curve to the left and one to the right behind it have chords on one line.
		"LLLLLRLLLLLR": true, "LRLLLLLRLLLL": true,
		strings.Repeat("S", 16) + "LLLL" + strings.Repeat("S", 16) + "LLLL": true,
		// Simple, but with one joint that is not on the border of the hull.
		"LLLLLRLSSLLLLSSR": false, "LLLLLRLLRLLLLLRR": false, "LLLLRRLLLLSSLLSS": false, "LLLLLRLSLLLLSR": false,
		// Not simple; the first one turns to the left alone.
		"LLLLLLLLLLLLLLLL": false, "LLLLLLLLRRRRRRRR": false, "LLLLLLLRSSRRRRRSSR": false, "SLLLLSLLLLSLLLLSLLLL": false,
	}
	for track, want := range wanted {
		for k := range track {
			spun := sure(impl.SpinTrack(track, k))
			same(t, got(impl.IsConvexTrack(spun)), gives(want), "IsConvexTrack", spun)
			same(t, got(impl.IsConvexTrack(sure(impl.MirrorTrack(spun)))), gives(want), "IsConvexTrack mirrored", spun)
			same(t, got(impl.IsConvexTrack(sure(impl.BackTrack(spun)))), gives(want), "IsConvexTrack backward", spun)
		}
	}
}

func TestConvexTracksLikeTheModel(t *testing.T) {
	counts := map[bool]int{}
	for _, track := range areaTracks() {
		convex := modelIsConvex(track)
		same(t, got(impl.IsConvexTrack(track)), gives(convex), "IsConvexTrack", track)
		if sure(impl.IsSimple(track)) {
			counts[convex]++
		}
	}
	if counts[true] < 50 || counts[false] < 50 {
		t.Error("there are too few simple tracks of one sort:", counts)
	}
}

// TestConvexTracksAndHulls checks that the polygon of a convex track is that of the hull of its joints, and that of another simple one is smaller.
func TestConvexTracksAndHulls(t *testing.T) {
	hulls := 0
	for _, track := range areaTracks() {
		joints := sure(impl.JointsOf(track))
		if len(track) > 20 || !sure(impl.IsSimple(track)) {
			continue
		}
		hulls++
		hull, polygon := sure(impl.FourHull(joints[1:])), sure(impl.FourPolygon(track))
		if sure(impl.WindingOf(track)) < 0 {
			polygon = less(polygon)
		}
		same(t, polygon == hull, sure(impl.IsConvexTrack(track)), "the polygon is the hull", track)
		same(t, modelCompare(polygon, hull) <= 0, true, "the polygon is not greater than the hull", track)
		onBorder := !slices.ContainsFunc(joints, func(p impl.Point) bool { return !isOnBorder(joints[1:], p) })
		same(t, onBorder, sure(impl.IsConvexTrack(track)), "all joints are on the border", track)
	}
	if hulls < 100 {
		t.Error("there are too few simple tracks:", hulls)
	}
}

// isOnBorder tells whether a point is on a side of the hull of points.
func isOnBorder(points []impl.Point, p impl.Point) bool {
	corners := sure(impl.HullOf(points))
	for i, corner := range corners {
		if sure(impl.IsBetween(corner, corners[(i+1)%len(corners)], p)) {
			return true
		}
	}
	return false
}
