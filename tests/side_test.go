package tests

import (
	"testing"

	"loop.example/g01217/impl"
)

// tiny is about 1/94642, in the direction of the heading: 33461 times the root of two is a little more than 47321.
func tiny(heading int) impl.Point { return sure(impl.TurnPoint(pt(-47321, 33461, 0, -33461), heading)) }

func plus(p impl.Point, q impl.Point) impl.Point { return sure(impl.AddPoints(p, q)) }

// rootOfTwo is the point so far to the east.
var rootOfTwo = pt(0, 1, 0, -1)

func TestSideOf(t *testing.T) {
	rows := []struct {
		p, q, r impl.Point
		side    int
	}{
		{pt(0, 0, 0, 0), pt(1, 0, 0, 0), pt(0, 1, 0, 0), 1},
		{pt(0, 0, 0, 0), pt(1, 0, 0, 0), pt(0, 0, 0, -1), -1},
		{pt(1, 0, 0, 0), pt(0, 0, 0, 0), pt(0, 1, 0, 0), -1},
		{pt(1, 2, 3, 4), pt(1, 2, 4, 4), pt(0, 2, 7, 4), 1},
		{pt(1, 2, 3, 4), pt(1, 2, 4, 4), pt(2, 2, -7, 4), -1},

		// On the line: between the two that tell it, before the first one, and behind the second one.
		{pt(0, 0, 0, 0), pt(3, 0, 0, 0), pt(1, 0, 0, 0), 0},
		{pt(0, 0, 0, 0), pt(3, 0, 0, 0), pt(-5, 0, 0, 0), 0},
		{pt(0, 0, 0, 0), pt(3, 0, 0, 0), pt(9, 0, 0, 0), 0},
		{pt(0, 0, 0, 0), pt(1, 0, 0, 0), rootOfTwo, 0},
		{pt(0, 1, 0, 0), pt(0, 3, 0, 0), pt(1, 0, 1, 0), 0},
		{pt(0, 0, 0, 0), pt(0, 0, 1, -1), pt(1, 1, -2, 2), 0},

		// To a side, before the first one and behind the second one.
		{pt(0, 0, 0, 0), pt(3, 0, 0, 0), pt(-5, 0, 1, 0), 1},
		{pt(0, 0, 0, 0), pt(3, 0, 0, 0), pt(-5, 0, -1, 0), -1},
		{pt(0, 0, 0, 0), pt(3, 0, 0, 0), pt(9, 0, 1, 0), 1},
		{pt(0, 0, 0, 0), pt(3, 0, 0, 0), pt(9, 0, -1, 0), -1},

		// Two equal points, and three.
		{pt(2, 3, 5, 7), pt(2, 3, 5, 7), pt(1, 0, 0, 0), 0},
		{pt(2, 3, 5, 7), pt(1, 0, 0, 0), pt(2, 3, 5, 7), 0},
		{pt(1, 0, 0, 0), pt(2, 3, 5, 7), pt(2, 3, 5, 7), 0},
		{pt(2, 3, 5, 7), pt(2, 3, 5, 7), pt(2, 3, 5, 7), 0},
		{pt(0, 0, 0, 0), pt(0, 0, 0, 0), pt(0, 0, 0, 0), 0},

		// Just beside the line.
		{pt(0, 0, 0, 0), pt(1, 0, 0, 0), tiny(2), 1},
		{pt(0, 0, 0, 0), pt(1, 0, 0, 0), tiny(6), -1},
		{pt(0, 0, 0, 0), pt(1, 0, 0, 0), tiny(0), 0},
		{pt(0, 0, 0, 0), pt(0, 100000, 0, 0), plus(pt(0, 50000, 0, 0), tiny(3)), 1},
		{pt(0, 0, 0, 0), pt(0, 100000, 0, 0), plus(pt(0, 50000, 0, 0), tiny(7)), -1},
		{pt(0, 0, 0, 0), pt(0, 100000, 0, 0), plus(pt(0, 50000, 0, 0), tiny(5)), 0},

		// With numbers of the greatest size.
		{pt(-100000, 0, 0, 0), pt(100000, 0, 0, 0), pt(0, -100000, 0, 100000), 0},
		{pt(-100000, 0, 0, 0), pt(100000, 0, 0, 0), pt(0, -99999, 0, 100000), 1},
		{pt(-100000, 0, 0, 0), pt(100000, 0, 0, 0), pt(0, -100000, 0, 99999), -1},
		{pt(-100000, 100000, -100000, -100000), pt(100000, -100000, 100000, 100000), pt(1, -1, 1, 1), 0},
		{pt(-100000, -100000, -100000, -100000), pt(100000, 100000, 100000, 100000), pt(99999, 100000, 100000, 100000), 1},
		{pt(-100000, -100000, -100000, -100000), pt(100000, 100000, 100000, 100000), pt(100000, 99999, 100000, 100000), 1},
		{pt(-100000, -100000, -100000, -100000), pt(100000, 100000, 100000, 100000), pt(100000, 100000, 100000, 99999), -1},
	}
	for _, row := range rows {
		same(t, got(impl.SideOf(row.p, row.q, row.r)), gives(row.side), "SideOf", row.p, row.q, row.r)
		same(t, got(impl.SideOf(row.q, row.p, row.r)), gives(-row.side), "SideOf", row.q, row.p, row.r)
		same(t, got(impl.SideOf(row.q, row.r, row.p)), gives(row.side), "SideOf", row.q, row.r, row.p)
	}
}

// closePoints are points of small numbers, so that many are the same, or on one line.
func closePoints(next func(int) int, many int) []impl.Point {
	var list []impl.Point
	for range many {
		p := pt(next(5)-2, 0, next(5)-2, 0)
		switch next(3) {
		case 0:
			p = pt(next(3)-1, next(3)-1, next(3)-1, next(3)-1)
		case 1:
			p = pt(next(5)-2, next(3)-1, 0, 0)
			p.D = -p.B
		}
		list = append(list, p)
	}
	return list
}

// farPoints are points with numbers up to the limit.
func farPoints(next func(int) int, many int) []impl.Point {
	number := func() int {
		if next(3) == 0 {
			return []int{-100000, -99999, 0, 99999, 100000}[next(5)]
		}
		return next(200001) - 100000
	}
	var list []impl.Point
	for range many {
		list = append(list, pt(number(), number(), number(), number()))
	}
	return list
}

// nearPoints are points on the way from one point to another, and just beside it.
func nearPoints(next func(int) int) []impl.Point {
	p, step := farPoints(next, 1)[0], closePoints(next, 1)[0]
	p = pt(p.A/4, p.B/4, p.C/4, p.D/4)
	list := []impl.Point{p}
	for range 3 {
		list = append(list, plus(p, sure(impl.ScalePoint(step, next(2001)-1000))))
	}
	return append(list, plus(list[1], tiny(next(8))), plus(list[2], tiny(next(8))))
}

// somePlaces are lists of points of all sorts.
func somePlaces(many int) [][]impl.Point {
	next := diceFrom(37)
	var lists [][]impl.Point
	for range many {
		lists = append(lists, closePoints(next, 6), farPoints(next, 6), nearPoints(next))
	}
	return lists
}

func TestSidesLikeTheModel(t *testing.T) {
	counts := map[int]int{}
	for _, list := range somePlaces(1000) {
		for i := range 4 {
			p, q, r := list[i], list[i+1], list[i+2]
			side := modelSide(p, q, r)
			counts[side]++
			same(t, got(impl.SideOf(p, q, r)), gives(side), "SideOf", p, q, r)
		}
	}
	if counts[-1] < 1000 || counts[0] < 1000 || counts[1] < 1000 {
		t.Error("there are too few points of one side:", counts)
	}
}

// TestSidesOfTurnedPoints checks that sides stay if all points are turned or moved, and change if they are mirrored.
func TestSidesOfTurnedPoints(t *testing.T) {
	for _, list := range somePlaces(200) {
		p, q, r := list[0], list[1], list[2]
		side := modelSide(p, q, r)
		for k := range 8 {
			turn := func(p impl.Point) impl.Point { return sure(impl.TurnPoint(p, k)) }
			same(t, got(impl.SideOf(turn(p), turn(q), turn(r))), gives(side), "SideOf turned", p, q, r, k)
		}
		mirror := func(p impl.Point) impl.Point { return sure(impl.MirrorPoint(p)) }
		same(t, got(impl.SideOf(mirror(p), mirror(q), mirror(r))), gives(-side), "SideOf mirrored", p, q, r)
	}
}

func TestIsBetween(t *testing.T) {
	rows := []struct {
		p, q, r impl.Point
		is      bool
	}{
		{pt(0, 0, 0, 0), pt(3, 0, 0, 0), pt(1, 0, 0, 0), true},
		{pt(0, 0, 0, 0), pt(3, 0, 0, 0), pt(0, 0, 0, 0), true},
		{pt(0, 0, 0, 0), pt(3, 0, 0, 0), pt(3, 0, 0, 0), true},
		{pt(0, 0, 0, 0), pt(3, 0, 0, 0), pt(-1, 0, 0, 0), false},
		{pt(0, 0, 0, 0), pt(3, 0, 0, 0), pt(4, 0, 0, 0), false},
		{pt(0, 0, 0, 0), pt(3, 0, 0, 0), pt(1, 0, 1, 0), false},
		{pt(0, 0, 0, 0), pt(2, 0, 0, 0), rootOfTwo, true},
		{pt(0, 0, 0, 0), pt(1, 0, 0, 0), rootOfTwo, false},
		{pt(0, 0, 0, 0), rootOfTwo, pt(1, 0, 0, 0), true},
		{pt(0, 0, 0, 0), rootOfTwo, pt(2, 0, 0, 0), false},
		{pt(0, 0, -2, 0), pt(0, 0, 5, 0), pt(0, 0, 0, 0), true},
		{pt(0, 0, -2, 0), pt(0, 0, 5, 0), pt(0, 0, 6, 0), false},
		{pt(0, 0, -2, 0), pt(0, 0, 5, 0), pt(0, 0, -3, 0), false},
		{pt(0, 1, 0, 0), pt(0, 3, 0, 0), pt(1, 0, 1, 0), true},
		{pt(0, 0, 0, 3), pt(0, 0, 0, -1), pt(0, 0, 0, 0), true},
		{pt(0, 0, 0, 0), pt(0, 0, 1, -1), pt(1, 1, -2, 2), true},

		// Pieces of one point.
		{pt(2, 3, 5, 7), pt(2, 3, 5, 7), pt(2, 3, 5, 7), true},
		{pt(2, 3, 5, 7), pt(2, 3, 5, 7), pt(2, 3, 5, 6), false},
		{pt(2, 3, 5, 7), pt(2, 3, 5, 7), pt(-2, -3, -5, -7), false},

		// Just beside the piece, and just before and behind its ends.
		{pt(0, 0, 0, 0), pt(50000, 0, 0, 0), plus(pt(25000, 0, 0, 0), tiny(0)), true},
		{pt(0, 0, 0, 0), pt(50000, 0, 0, 0), plus(pt(25000, 0, 0, 0), tiny(2)), false},
		{pt(0, 0, 0, 0), pt(50000, 0, 0, 0), plus(pt(25000, 0, 0, 0), tiny(6)), false},
		{pt(0, 0, 0, 0), pt(50000, 0, 0, 0), tiny(0), true},
		{pt(0, 0, 0, 0), pt(50000, 0, 0, 0), tiny(4), false},
		{pt(0, 0, 0, 0), pt(50000, 0, 0, 0), plus(pt(50000, 0, 0, 0), tiny(4)), true},
		{pt(0, 0, 0, 0), pt(50000, 0, 0, 0), plus(pt(50000, 0, 0, 0), tiny(0)), false},
		{pt(0, 0, 0, 0), pt(0, 0, 50000, 0), plus(pt(0, 0, 50000, 0), tiny(6)), true},
		{pt(0, 0, 0, 0), pt(0, 0, 50000, 0), plus(pt(0, 0, 50000, 0), tiny(2)), false},

		// With numbers of the greatest size.
		{pt(-100000, 0, 0, 0), pt(100000, 0, 0, 0), pt(100000, 0, 0, 0), true},
		{pt(-100000, 0, 0, 0), pt(100000, 0, 0, 0), pt(0, -70710, 0, 70710), true},
		{pt(-100000, 0, 0, 0), pt(100000, 0, 0, 0), pt(0, -70711, 0, 70711), false},
		{pt(-100000, 100000, -100000, -100000), pt(100000, -100000, 100000, 100000), pt(99999, -99999, 99999, 99999), true},
		{pt(-100000, 100000, -100000, -100000), pt(100000, -100000, 100000, 100000), pt(99999, -99999, 99999, 99998), false},
	}
	for _, row := range rows {
		same(t, got(impl.IsBetween(row.p, row.q, row.r)), gives(row.is), "IsBetween", row.p, row.q, row.r)
		same(t, got(impl.IsBetween(row.q, row.p, row.r)), gives(row.is), "IsBetween", row.q, row.p, row.r)
	}
}

func TestIsBetweenLikeTheModel(t *testing.T) {
	between := 0
	for _, list := range somePlaces(1000) {
		for i := range 4 {
			p, q, r := list[i], list[i+1], list[i+2]
			is := modelBetween(p, q, r)
			if is {
				between++
			}
			same(t, got(impl.IsBetween(p, q, r)), gives(is), "IsBetween", p, q, r)
			same(t, got(impl.IsBetween(p, q, p)), gives(true), "IsBetween, the first one", p, q)
			same(t, got(impl.IsBetween(p, q, q)), gives(true), "IsBetween, the second one", p, q)
		}
	}
	if between < 500 {
		t.Error("there are too few points between others:", between)
	}
}

func TestShareChords(t *testing.T) {
	rows := []struct {
		p, q, r, s impl.Point
		share      bool
	}{
		// Pieces that cross, or would if they were longer.
		{pt(0, 0, 0, 0), pt(2, 0, 0, 0), pt(1, 0, -1, 0), pt(1, 0, 1, 0), true},
		{pt(0, 0, 0, 0), pt(2, 0, 0, 0), pt(1, 0, -1, 0), pt(1, 0, -3, 0), false},
		{pt(0, 0, 0, 0), pt(2, 0, 0, 0), pt(3, 0, -1, 0), pt(3, 0, 1, 0), false},
		{pt(0, 0, 0, 0), pt(2, 0, 0, 0), pt(3, 0, 1, 0), pt(3, 0, 2, 0), false},
		{pt(0, 0, 0, 0), pt(0, 2, 0, 0), pt(1, 0, 0, 0), pt(0, 0, 1, 0), true},

		// An end of one on the other, and just beside it.
		{pt(0, 0, 0, 0), pt(2, 0, 0, 0), pt(1, 0, 0, 0), pt(1, 0, 1, 0), true},
		{pt(0, 0, 0, 0), pt(2, 0, 0, 0), plus(pt(1, 0, 0, 0), tiny(2)), pt(1, 0, 1, 0), false},
		{pt(0, 0, 0, 0), pt(2, 0, 0, 0), plus(pt(1, 0, 0, 0), tiny(6)), pt(1, 0, 1, 0), true},
		{pt(0, 0, 0, 0), pt(2, 0, 0, 0), plus(pt(2, 0, -1, 0), tiny(0)), plus(pt(2, 0, 1, 0), tiny(0)), false},
		{pt(0, 0, 0, 0), pt(2, 0, 0, 0), plus(pt(2, 0, -1, 0), tiny(4)), plus(pt(2, 0, 1, 0), tiny(4)), true},

		// An end of each is the same.
		{pt(0, 0, 0, 0), pt(2, 0, 0, 0), pt(2, 0, 0, 0), pt(3, 0, 1, 0), true},
		{pt(0, 0, 0, 0), pt(2, 0, 0, 0), pt(0, 0, 0, 0), pt(3, 0, 1, 0), true},

		// On one line: apart, end to end, one over a part of the other, one in the other, and the same.
		{pt(0, 0, 0, 0), pt(1, 0, 0, 0), pt(2, 0, 0, 0), pt(3, 0, 0, 0), false},
		{pt(0, 0, 0, 0), pt(1, 0, 0, 0), pt(1, 0, 0, 0), pt(3, 0, 0, 0), true},
		{pt(0, 0, 0, 0), pt(2, 0, 0, 0), pt(1, 0, 0, 0), pt(3, 0, 0, 0), true},
		{pt(0, 0, 0, 0), pt(5, 0, 0, 0), pt(1, 0, 0, 0), pt(3, 0, 0, 0), true},
		{pt(0, 0, 0, 0), pt(5, 0, 0, 0), pt(0, 0, 0, 0), pt(5, 0, 0, 0), true},
		{pt(0, 0, 0, 0), rootOfTwo, pt(1, 0, 0, 0), pt(2, 0, 0, 0), true},
		{pt(0, 0, 0, 0), pt(1, 0, 0, 0), rootOfTwo, pt(2, 0, 0, 0), false},
		{pt(0, 0, 0, 0), pt(0, 0, 0, 1), pt(0, 0, 0, 2), pt(0, 0, 0, 3), false},
		{pt(0, 0, 0, 0), pt(0, 0, 0, 2), pt(0, 0, 0, 1), pt(0, 0, 0, 3), true},
		{pt(0, 0, 0, 0), pt(0, 0, 2, 0), pt(0, 0, 3, 0), pt(0, 0, 4, 0), false},
		{pt(0, 0, 0, 0), pt(0, 0, 3, 0), pt(0, 0, 3, 0), pt(0, 0, 4, 0), true},

		// On two lines next to each other.
		{pt(0, 0, 0, 0), pt(2, 0, 0, 0), pt(0, 0, 1, 0), pt(2, 0, 1, 0), false},
		{pt(0, 0, 0, 0), pt(2, 0, 0, 0), tiny(2), plus(pt(2, 0, 0, 0), tiny(2)), false},

		// Pieces of one point: on the other one, at its end, on its line and beside it; and two of them.
		{pt(0, 0, 0, 0), pt(2, 0, 0, 0), pt(1, 0, 0, 0), pt(1, 0, 0, 0), true},
		{pt(0, 0, 0, 0), pt(2, 0, 0, 0), pt(2, 0, 0, 0), pt(2, 0, 0, 0), true},
		{pt(0, 0, 0, 0), pt(2, 0, 0, 0), pt(3, 0, 0, 0), pt(3, 0, 0, 0), false},
		{pt(0, 0, 0, 0), pt(2, 0, 0, 0), pt(1, 0, 1, 0), pt(1, 0, 1, 0), false},
		{pt(0, 0, 0, 0), pt(2, 0, 0, 0), plus(pt(1, 0, 0, 0), tiny(2)), plus(pt(1, 0, 0, 0), tiny(2)), false},
		{pt(2, 3, 5, 7), pt(2, 3, 5, 7), pt(2, 3, 5, 7), pt(2, 3, 5, 7), true},
		{pt(2, 3, 5, 7), pt(2, 3, 5, 7), pt(2, 3, 5, 6), pt(2, 3, 5, 6), false},

		// With numbers of the greatest size.
		{pt(-100000, 0, 0, 0), pt(100000, 0, 0, 0), pt(0, 0, -100000, 0), pt(0, 0, 100000, 0), true},
		{pt(-100000, 0, 0, 0), pt(100000, 0, 0, 0), pt(0, -100000, 0, 100000), pt(0, 0, 0, -100000), false},
		{pt(-100000, -100000, -100000, -100000), pt(100000, 100000, 100000, 100000), pt(-100000, 100000, 100000, 100000), pt(100000, -100000, -100000, -100000), true},
	}
	for _, row := range rows {
		checkShare(t, row.p, row.q, row.r, row.s, row.share)
	}
}

// checkShare takes the pieces in each order, with the ends of each in each order.
func checkShare(t *testing.T, p, q, r, s impl.Point, share bool) {
	t.Helper()
	a, b := [2]impl.Point{p, q}, [2]impl.Point{r, s}
	for i := range 8 {
		if i == 4 {
			a, b = b, a
		}
		from, other := i%2, i/2%2
		answer := got(impl.ShareChords(a[from], a[1-from], b[other], b[1-other]))
		same(t, answer, gives(share), "ShareChords", a[from], a[1-from], b[other], b[1-other])
	}
}

func TestShareChordsLikeTheModel(t *testing.T) {
	counts := map[bool]int{}
	for _, list := range somePlaces(500) {
		for i := range 3 {
			p, q, r, s := list[i], list[i+1], list[i+2], list[i+3]
			share := modelShare(p, q, r, s)
			counts[share]++
			checkShare(t, p, q, r, s, share)
			checkShare(t, p, q, q, s, true)
		}
	}
	if counts[true] < 500 || counts[false] < 500 {
		t.Error("there are too few pieces of one sort:", counts)
	}
}
