package tests

import (
	"fmt"
	"slices"
	"strings"
	"testing"

	"loop.example/g01217/impl"
)

// placeCalls are the calls that require points alone, with how many each takes.
var placeCalls = map[string]struct {
	many int
	call func(p [4]impl.Point) answer[string]
}{
	"SideOf":      {3, func(p [4]impl.Point) answer[string] { return printed(impl.SideOf(p[0], p[1], p[2])) }},
	"IsBetween":   {3, func(p [4]impl.Point) answer[string] { return printed(impl.IsBetween(p[0], p[1], p[2])) }},
	"ShareChords": {4, func(p [4]impl.Point) answer[string] { return printed(impl.ShareChords(p[0], p[1], p[2], p[3])) }},
}

// pointsCalls are the calls that require a list of points.
var pointsCalls = map[string]func([]impl.Point) answer[string]{
	"HullOf":       hullOf,
	"FarthestPair": func(points []impl.Point) answer[string] { a := farthestPair(points); return printed(a.value, a.ok) },
	"FourHull":     func(points []impl.Point) answer[string] { return printed(impl.FourHull(points)) },
}

// closedCalls are the calls that require a closed track.
var closedCalls = map[string]func(string) answer[string]{
	"FourPolygon":           func(track string) answer[string] { return printed(impl.FourPolygon(track)) },
	"FourArea":              func(track string) answer[string] { a := fourArea(track); return printed(a.value, a.ok) },
	"IsSimple":              func(track string) answer[string] { return printed(impl.IsSimple(track)) },
	"IsConvexTrack":         func(track string) answer[string] { return printed(impl.IsConvexTrack(track)) },
	"WindingAround far":     func(track string) answer[string] { return printed(impl.WindingAround(track, pt(99, 0, 0, 0))) },
	"WindingAround a joint": func(track string) answer[string] { return printed(impl.WindingAround(track, pt(0, 0, 0, 0))) },
}

// anyTrackCalls are the calls that require a track.
var anyTrackCalls = map[string]func(string) answer[string]{
	"WidthOf":        func(track string) answer[string] { return printed(impl.WidthOf(track)) },
	"HeightOf":       func(track string) answer[string] { return printed(impl.HeightOf(track)) },
	"CountCrossings": func(track string) answer[string] { return printed(impl.CountCrossings(track)) },
}

// noPlaces are points with one number that is too great, at each place, and values that are no points.
func noPlaces() []impl.Point {
	list := noPoints()
	for _, n := range []int{100001, -100001, 200000, -200000, 999999, -999999, 1000000, 1 << 32, -1 << 32} {
		list = append(list, pt(n, 0, 0, 0), pt(0, n, 0, 0), pt(0, 0, n, 0), pt(0, 0, 0, n), pt(n, n, n, n))
	}
	return list
}

// atLimit are points with one number of the greatest size at each place, or all.
func atLimit() []impl.Point {
	var list []impl.Point
	for _, n := range []int{100000, -100000} {
		list = append(list, pt(n, 0, 0, 0), pt(0, n, 0, 0), pt(0, 0, n, 0), pt(0, 0, 0, n), pt(n, n, n, n), pt(n, -n, n, -n))
	}
	return list
}

func TestAreaCallsOfNoPlace(t *testing.T) {
	for name, row := range placeCalls {
		for at := range row.many {
			for _, bad := range noPlaces() {
				// The same points elsewhere, so that no difference tells that one is too great.
				for _, other := range []impl.Point{{}, pt(1, 2, 3, 4), bad} {
					points := [4]impl.Point{other, other, other, other}
					points[at] = bad
					same(t, row.call(points), failsAs[string](), name, points)
				}
			}
			for _, fine := range atLimit() {
				points := [4]impl.Point{}
				points[at] = fine
				same(t, row.call(points).ok, true, name, "succeeds", points)
			}
		}
	}
}

func TestAreaCallsOfListsWithNoPlace(t *testing.T) {
	for name, call := range pointsCalls {
		for _, many := range []int{1, 2, 3, 20} {
			for at := range many {
				for i, bad := range noPlaces() {
					points := inRow(pt(i%5, 0, 0, 0), pt(0, 1, 0, 0), many)
					points[at] = bad
					same(t, call(points), failsAs[string](), name, points)
				}
				for _, fine := range atLimit() {
					points := inRow(pt(0, 0, 0, 0), pt(0, 1, 0, 0), many)
					points[at] = fine
					same(t, call(points).ok, true, name, "succeeds", points)
				}
			}
		}
	}
}

func TestAreaCallsOfNoTrack(t *testing.T) {
	for _, text := range noTracks() {
		for name, call := range anyTrackCalls {
			same(t, call(text), failsAs[string](), name, text)
		}
	}
	for _, text := range noRings() {
		for name, call := range closedCalls {
			same(t, call(text), failsAs[string](), name, text)
		}
	}
	for _, track := range []string{"LLLLLLLL", strings.Repeat("R", 40)} {
		for _, bad := range noPlaces() {
			same(t, got(impl.WindingAround(track, bad)), failsAs[int](), "WindingAround", track, bad)
		}
		for _, fine := range atLimit() {
			same(t, got(impl.WindingAround(track, fine)), gives(0), "WindingAround", track, fine)
		}
	}
}

// TestAnyAreaTextsAreAccepted calls everything with texts of any bytes.
func TestAnyAreaTextsAreAccepted(t *testing.T) {
	next := diceFrom(59)
	tracks := areaTracks()
	counts := map[bool]int{}
	for range 3000 {
		text := []byte(tracks[next(len(tracks))])
		for range next(3) {
			text[next(len(text))] = byte(next(256))
		}
		if next(5) == 0 {
			text = append(text, "SLRX\x00"[next(5)])
		}
		s := string(text)
		is := len(s) <= 40 && strings.Trim(s, "SLR") == ""
		isClosed := is && modelIsClosed(s)
		counts[isClosed]++
		for name, call := range anyTrackCalls {
			same(t, call(s).ok, is, name, "succeeds", s)
		}
		for name, call := range closedCalls {
			same(t, call(s).ok, isClosed && name != "WindingAround a joint", name, "succeeds", s)
		}
	}
	if counts[true] < 500 || counts[false] < 500 {
		t.Error("there are too few texts of one sort:", counts)
	}
}

// TestAnyPointsOfAreasAreAccepted calls everything with any numbers, in lists of any length.
func TestAnyPointsOfAreasAreAccepted(t *testing.T) {
	next := diceFrom(61)
	all := append(append(anyPoints(), noPlaces()...), atLimit()...)
	counts := map[bool]int{}
	for i := range 4000 {
		points := farPoints(next, next(24))
		if i%2 == 0 {
			points = append(points, all[next(len(all))])
		}
		is := 1 <= len(points) && len(points) <= 20 && modelArePlaces(points...)
		counts[is]++
		for name, call := range pointsCalls {
			same(t, call(points).ok, is, name, "succeeds", points)
		}
		four := [4]impl.Point{all[next(len(all))], all[next(len(all))], all[next(len(all))], all[next(len(all))]}
		for name, row := range placeCalls {
			same(t, row.call(four).ok, modelArePlaces(four[:row.many]...), name, "succeeds", four)
		}
		around := orNone(modelArePlaces(four[0]), func() answer[int] { return modelAround("LLLLLLLL", four[0]) })
		same(t, got(impl.WindingAround("LLLLLLLL", four[0])), around, "WindingAround", four[0])
	}
	if counts[true] < 1000 || counts[false] < 1000 {
		t.Error("there are too few lists of one sort:", counts)
	}
}

// roomyPoints returns a list with room behind it, and all of the memory, in which this room is told by another point.
func roomyPoints(list []impl.Point) ([]impl.Point, []impl.Point) {
	other := pt(77, 77, 77, 77)
	memory := append(append(pointsOf(other), list...), other, other, other)
	return memory[1 : len(list)+1], memory
}

// TestPointsStayTheSame checks that no call writes to the list that it is given, nor to the room behind it, nor reads this.
func TestPointsStayTheSame(t *testing.T) {
	lists := append(someHulls(), nil, slices.Repeat(octagon, 3), noPlaces()[:20], append(slices.Clone(octagon), noPlaces()[0]))
	for _, points := range lists {
		given, memory := roomyPoints(points)
		before := fmt.Sprint(memory)
		for name, call := range pointsCalls {
			same(t, call(given), call(slices.Clip(slices.Clone(points))), name, points)
			same(t, fmt.Sprint(memory), before, "what was given to", name)
		}
	}
}

// TestHullsAreNew writes to what HullOf returns, and to the room behind it: this changes neither what was given nor what is returned next.
func TestHullsAreNew(t *testing.T) {
	for _, points := range someHulls() {
		given, memory := roomyPoints(points)
		before, hull := fmt.Sprint(memory), hullOf(given)
		first, second := sure(impl.HullOf(given)), sure(impl.HullOf(given))
		for i := range first[:cap(first)] {
			first[:cap(first)][i] = pt(99, 99, 99, 99)
		}
		same(t, fmt.Sprint(memory), before, "what was given")
		same(t, printed(second, true), hull, "a hull beside it", points)
		same(t, hullOf(given), hull, "HullOf again", points)
	}
}

// TestAreaCallsAreRepeated checks that a call leaves nothing behind for the next one.
func TestAreaCallsAreRepeated(t *testing.T) {
	all := func() string {
		var results []string
		for i, track := range areaTracks() {
			if i%20 != 0 {
				continue
			}
			for name, call := range closedCalls {
				results = append(results, fmt.Sprint(track, name, call(track)))
			}
			for name, call := range anyTrackCalls {
				results = append(results, fmt.Sprint(track, name, call(track)))
			}
			for name, call := range pointsCalls {
				results = append(results, fmt.Sprint(track, name, call(modelJoints(track))))
			}
		}
		slices.Sort(results)
		return strings.Join(results, "\n")
	}
	first := all()
	for range 3 {
		same(t, all(), first, "all calls again")
	}
}
