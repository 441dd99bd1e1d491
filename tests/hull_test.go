package tests

import (
	"slices"
	"strings"
	"testing"

	"loop.example/g01217/impl"
)

func pointsOf(points ...impl.Point) []impl.Point { return points }

func hullOf(points []impl.Point) answer[string] { return printed(impl.HullOf(points)) }

func givesPoints(points []impl.Point) answer[string] { return printed(points, true) }

func farthestPair(points []impl.Point) answer[[2]impl.Point] {
	p, q, ok := impl.FarthestPair(points)
	return answer[[2]impl.Point]{[2]impl.Point{p, q}, ok}
}

// inRow are points on one line, to the east of each other by the same step.
func inRow(from impl.Point, step impl.Point, many int) []impl.Point {
	list := pointsOf(from)
	for len(list) < many {
		list = append(list, plus(list[len(list)-1], step))
	}
	return list
}

var (
	spot      = pt(2, -3, 5, -7)
	southWest = pt(0, 0, 0, 0)
	southEast = pt(4, 0, 0, 0)
	northEast = pt(4, 0, 4, 0)
	northWest = pt(0, 0, 4, 0)
	octagon   = pointsOf(pt(-1, 0, 1, 0), pt(0, -1, 1, 0), pt(0, 0, 0, 0), pt(0, 0, 1, -1), pt(1, 0, 1, 0), pt(0, 1, 1, 0), pt(0, 0, 2, 0), pt(0, 0, 1, 1))
	greatest  = pointsOf(pt(-100000, -100000, 0, 100000), pt(0, -100000, -100000, -100000), pt(100000, 100000, 0, -100000), pt(0, 100000, 100000, 100000))
)

// hulls are points with the corners of their hulls, their farthest pairs, and four times the areas of the hulls.
var hulls = []struct {
	name    string
	points  []impl.Point
	corners []impl.Point
	pair    [2]impl.Point
	area    impl.Surd
}{
	{"one point", pointsOf(spot), pointsOf(spot), [2]impl.Point{spot, spot}, surd(0, 0)},
	{"two equal points", pointsOf(spot, spot), pointsOf(spot), [2]impl.Point{spot, spot}, surd(0, 0)},
	{"equal points", slices.Repeat(pointsOf(spot), 20), pointsOf(spot), [2]impl.Point{spot, spot}, surd(0, 0)},
	{"two points", pointsOf(southEast, southWest), pointsOf(southWest, southEast), [2]impl.Point{southEast, southWest}, surd(0, 0)},
	{"two points, one of them twice", pointsOf(northWest, southEast, northWest), pointsOf(northWest, southEast), [2]impl.Point{northWest, southEast}, surd(0, 0)},
	{
		"on a line to the north-west", pointsOf(pt(0, 0, 0, 1), pt(0, 0, 0, -2), pt(0, 0, 0, 5), pt(0, 0, 0, 2)),
		pointsOf(pt(0, 0, 0, 5), pt(0, 0, 0, -2)), [2]impl.Point{pt(0, 0, 0, -2), pt(0, 0, 0, 5)}, surd(0, 0),
	},
	{
		"on a line to the north", pointsOf(pt(0, 0, 1, 0), pt(0, 0, 7, 0), pt(0, 0, -2, 0), pt(0, 0, 3, 0)),
		pointsOf(pt(0, 0, -2, 0), pt(0, 0, 7, 0)), [2]impl.Point{pt(0, 0, 7, 0), pt(0, 0, -2, 0)}, surd(0, 0),
	},
	{
		"twenty on a line", inRow(pt(100000, 0, 0, 0), pt(-7, 0, 1, 0), 20),
		pointsOf(pt(99867, 0, 19, 0), pt(100000, 0, 0, 0)), [2]impl.Point{pt(100000, 0, 0, 0), pt(99867, 0, 19, 0)}, surd(0, 0),
	},
	{
		"a triangle", pointsOf(northEast, southWest, southEast), pointsOf(southWest, southEast, northEast),
		[2]impl.Point{northEast, southWest}, surd(32, 0),
	},
	{
		"a square with points on its sides and inside", pointsOf(pt(2, 0, 2, 0), northEast, pt(2, 0, 4, 0), southWest, pt(4, 0, 1, 0), northWest, pt(0, 0, 3, 0), pt(1, 0, 0, 0), southEast, northWest, pt(0, 1, 0, 0)),
		pointsOf(southWest, southEast, northEast, northWest), [2]impl.Point{northEast, southWest}, surd(64, 0),
	},
	{"its corners, another pair first", pointsOf(southEast, southWest, northEast, northWest), pointsOf(southWest, southEast, northEast, northWest), [2]impl.Point{southEast, northWest}, surd(64, 0)},
	{"its corners twice", pointsOf(northWest, southWest, northWest, southEast, northEast, southEast), pointsOf(southWest, southEast, northEast, northWest), [2]impl.Point{northWest, southEast}, surd(64, 0)},
	{
		"a point just outside of a side", pointsOf(southWest, plus(pt(2, 0, 0, 0), tiny(6)), southEast, northEast),
		pointsOf(southWest, plus(pt(2, 0, 0, 0), tiny(6)), southEast, northEast), [2]impl.Point{southWest, northEast}, surd(32-8*47321, 8*33461),
	},
	{
		"a point just inside of a side", pointsOf(southWest, plus(pt(2, 0, 0, 0), tiny(2)), southEast, northEast),
		pointsOf(southWest, southEast, northEast), [2]impl.Point{southWest, northEast}, surd(32, 0),
	},
	{"an octagon", append(slices.Clone(octagon[5:]), octagon[:5]...), octagon, [2]impl.Point{octagon[5], octagon[1]}, surd(0, 8)},
	{"the greatest", greatest, pointsOf(greatest[0], greatest[1], greatest[2], greatest[3]), [2]impl.Point{greatest[0], greatest[2]}, surd(240000000000, 160000000000)},
}

func TestHulls(t *testing.T) {
	for _, row := range hulls {
		same(t, hullOf(row.points), givesPoints(row.corners), "HullOf", row.name)
		same(t, farthestPair(row.points), gives(row.pair), "FarthestPair", row.name)
		same(t, got(impl.FourHull(row.points)), gives(row.area), "FourHull", row.name)
		same(t, givesPoints(modelHull(row.points)), givesPoints(row.corners), "the hull of the model", row.name)
	}
}

// someHulls are lists of 1 to 20 points: near to each other, far, on one line, and joints of tracks.
func someHulls() [][]impl.Point {
	next := diceFrom(47)
	var lists [][]impl.Point
	for i := range 400 {
		many := i%20 + 1
		lists = append(lists, closePoints(next, many), farPoints(next, many))
		row := inRow(closePoints(next, 1)[0], closePoints(next, 1)[0], many)
		row[next(many)] = closePoints(next, 1)[0]
		lists = append(lists, row, nearPoints(next))
	}
	for _, track := range append(tracksUpTo(4), areaTracks()[:200]...) {
		joints := modelJoints(track)
		lists = append(lists, joints[:min(len(joints), 20)])
	}
	return lists
}

func TestHullsLikeTheModel(t *testing.T) {
	counts := map[int]int{}
	for _, points := range someHulls() {
		corners := modelHull(points)
		counts[min(len(corners), 4)]++
		same(t, hullOf(points), givesPoints(corners), "HullOf", points)
		same(t, farthestPair(points), gives(modelFarthest(points)), "FarthestPair", points)
		area := modelFourPolygon(append(slices.Clone(corners), corners[0]))
		same(t, got(impl.FourHull(points)), gives(area), "FourHull", points)
	}
	if counts[1] < 20 || counts[2] < 100 || counts[3] < 100 || counts[4] < 100 {
		t.Error("there are too few hulls of one sort:", counts)
	}
}

// TestPointsAreLeftOfTheirHull checks that all points are on or to the left of each side, and that each corner is one of them and turns to the left.
func TestPointsAreLeftOfTheirHull(t *testing.T) {
	for _, points := range someHulls() {
		corners := sure(impl.HullOf(points))
		for i, corner := range corners {
			next, overNext := corners[(i+1)%len(corners)], corners[(i+2)%len(corners)]
			same(t, slices.Contains(points, corner), true, "a corner is one of the points", points, corner)
			same(t, slices.Index(corners, corner), i, "a corner is there once", points, corner)
			for _, p := range points {
				same(t, sure(impl.SideOf(corner, next, p)) >= 0, true, "a point is not to the right", points, corner, next, p)
			}
			if len(corners) > 2 {
				same(t, got(impl.SideOf(corner, next, overNext)), gives(1), "a corner turns to the left", points, next)
			}
		}
		for _, p := range points {
			west := modelCompare(modelX(corners[0]), modelX(p))
			same(t, west < 0 || west == 0 && modelCompare(modelY(corners[0]), modelY(p)) <= 0, true, "the first corner is farthest to the west", points)
		}
	}
}

// TestHullsInAnyOrder takes the points in other orders, and some of them twice.
func TestHullsInAnyOrder(t *testing.T) {
	next := diceFrom(53)
	for _, points := range someHulls() {
		hull, area := hullOf(points), got(impl.FourHull(points))
		other := slices.Clone(points)
		for len(other) < 20 && next(3) > 0 {
			other = append(other, other[next(len(other))])
		}
		for i := range other {
			j := next(i + 1)
			other[i], other[j] = other[j], other[i]
		}
		same(t, hullOf(other), hull, "HullOf in another order", points)
		same(t, got(impl.FourHull(other)), area, "FourHull in another order", points)
		pair, again := farthestPair(points).value, farthestPair(other).value
		same(t, modelNorm(again[0], again[1]), modelNorm(pair[0], pair[1]), "the distance in another order", points)
	}
}

// TestNoPairIsFarther holds the farthest pair against all pairs, and against those that come before it.
func TestNoPairIsFarther(t *testing.T) {
	for _, points := range someHulls() {
		pair := farthestPair(points).value
		greatest := sure(impl.LessPoints(pair[0], pair[1]))
		isBehind := false
		for i, p := range points {
			for _, q := range points[i+1:] {
				order := sure(impl.CompareNorms(sure(impl.LessPoints(p, q)), greatest))
				isBehind = isBehind || pair == [2]impl.Point{p, q}
				same(t, order < 0 || order == 0 && isBehind, true, "FarthestPair is the first one of the farthest", points, p, q)
			}
		}
		same(t, isBehind || len(points) == 1, true, "FarthestPair is a pair", points)
	}
}

func TestHowManyPointsHullsHave(t *testing.T) {
	many := inRow(pt(0, 0, 0, 0), pt(1, 0, 0, 0), 30)
	for n := range 31 {
		points := many[:n:n]
		is := 1 <= n && n <= 20
		same(t, hullOf(points).ok, is, "HullOf succeeds", n)
		same(t, farthestPair(points).ok, is, "FarthestPair succeeds", n)
		same(t, got(impl.FourHull(points)).ok, is, "FourHull succeeds", n)
	}
	for _, points := range [][]impl.Point{nil, {}, many[:0], many[:21], slices.Repeat(pointsOf(spot), 21), slices.Repeat(octagon, 1000)} {
		same(t, hullOf(points), failsAs[string](), "HullOf", len(points))
		same(t, farthestPair(points), failsAs[[2]impl.Point](), "FarthestPair", len(points))
		same(t, got(impl.FourHull(points)), failsAs[impl.Surd](), "FourHull", len(points))
	}
	around := sure(impl.JointsOf(strings.Repeat("LS", 8)))
	same(t, len(sure(impl.HullOf(around))), 16, "the corners of an octagon of 16 pieces")
}
