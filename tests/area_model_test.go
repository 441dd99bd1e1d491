package tests

import (
	"math"
	"slices"

	"loop.example/g01217/impl"
)

// The model takes the numbers of points to the east and to the north apart, holds pieces against boxes around them, looks for the sides of hulls among all pairs, and adds up angles, so that the program can be compared with it.

// modelX and modelY are twice the numbers to the east and to the north.
func modelX(p impl.Point) impl.Surd { return surd(2*p.A, p.B-p.D) }

func modelY(p impl.Point) impl.Surd { return surd(2*p.C, p.B+p.D) }

func surdsLess(s impl.Surd, u impl.Surd) impl.Surd { return surd(s.Plain-u.Plain, s.Root-u.Root) }

func surdsTogether(s impl.Surd, u impl.Surd) impl.Surd { return surd(s.Plain+u.Plain, s.Root+u.Root) }

func surdsTimes(s impl.Surd, u impl.Surd) impl.Surd {
	return surd(s.Plain*u.Plain+2*s.Root*u.Root, s.Plain*u.Root+s.Root*u.Plain)
}

func halfSurd(s impl.Surd) impl.Surd { return surd(s.Plain/2, s.Root/2) }

func modelSide(p impl.Point, q impl.Point, r impl.Point) int {
	east, north := surdsLess(modelX(q), modelX(p)), surdsLess(modelY(q), modelY(p))
	farEast, farNorth := surdsLess(modelX(r), modelX(p)), surdsLess(modelY(r), modelY(p))
	return modelCompare(surdsTimes(east, farNorth), surdsTimes(north, farEast))
}

// modelSpans tells whether the pieces from a to b and from c to d, as numbers of one direction, have a number in common.
func modelSpans(a, b, c, d impl.Surd) bool {
	least := slices.MaxFunc([]impl.Surd{slices.MinFunc([]impl.Surd{a, b}, modelCompare), slices.MinFunc([]impl.Surd{c, d}, modelCompare)}, modelCompare)
	greatest := slices.MinFunc([]impl.Surd{slices.MaxFunc([]impl.Surd{a, b}, modelCompare), slices.MaxFunc([]impl.Surd{c, d}, modelCompare)}, modelCompare)
	return modelCompare(least, greatest) <= 0
}

// modelBoxes tells whether the boxes around two pieces have a point in common.
func modelBoxes(p, q, r, s impl.Point) bool {
	return modelSpans(modelX(p), modelX(q), modelX(r), modelX(s)) && modelSpans(modelY(p), modelY(q), modelY(r), modelY(s))
}

func modelBetween(p impl.Point, q impl.Point, r impl.Point) bool {
	return modelSide(p, q, r) == 0 && modelBoxes(p, q, r, r)
}

func modelShare(p, q, r, s impl.Point) bool {
	return modelBoxes(p, q, r, s) && modelSide(p, q, r)*modelSide(p, q, s) <= 0 && modelSide(r, s, p)*modelSide(r, s, q) <= 0
}

func modelJoints(track string) []impl.Point {
	var joints []impl.Point
	for _, l := range modelLaid(track) {
		joints = append(joints, l.to)
	}
	return joints
}

// modelFourPolygon adds up what is between each side and the line from the west to the east. The last corner has to be the first one.
func modelFourPolygon(corners []impl.Point) impl.Surd {
	var sum impl.Surd
	for i := range len(corners) - 1 {
		p, q := corners[i], corners[i+1]
		west, north := surdsLess(modelX(p), modelX(q)), surdsTogether(modelY(p), modelY(q))
		sum = surdsTogether(sum, surdsTimes(west, north))
	}
	return halfSurd(sum)
}

// area is what FourArea returns.
type area struct {
	surd   impl.Surd
	number int
}

// modelFourArea adds up what the way along the track spans with the point 0: of a curve, this is what its ends span with its middle, and an eighth of a circle.
func modelFourArea(track string) area {
	var sum impl.Surd
	eighths := 0
	laid := modelLaid(track)
	for i, piece := range track {
		p, q, from := laid[i].to, laid[i+1].to, laid[i].to
		if piece != 'S' {
			side := map[rune]int{'L': 1, 'R': -1}[piece]
			modelPower(&from, laid[i].heading+2, side)
			eighths += side
		}
		east, north := surdsLess(modelX(q), modelX(p)), surdsLess(modelY(q), modelY(p))
		sum = surdsTogether(sum, surdsLess(surdsTimes(modelX(from), north), surdsTimes(modelY(from), east)))
	}
	return area{halfSurd(sum), eighths / 8}
}

// modelReach is the greatest of some numbers less the least one.
func modelReach(joints []impl.Point, numberOf func(impl.Point) impl.Surd) impl.Surd {
	var numbers []impl.Surd
	for _, p := range joints {
		numbers = append(numbers, numberOf(p))
	}
	slices.SortFunc(numbers, modelCompare)
	return surdsLess(numbers[len(numbers)-1], numbers[0])
}

func modelCountCrossings(track string) int {
	joints, count := modelJoints(track), 0
	for i := range len(track) {
		for j := i + 2; j < len(track); j++ {
			if i == 0 && j == len(track)-1 && modelIsClosed(track) {
				continue
			}
			if modelShare(joints[i], joints[i+1], joints[j], joints[j+1]) {
				count++
			}
		}
	}
	return count
}

func modelIsSimple(track string) bool {
	return modelCountCrossings(track) == 0 && len(modelMeetings(track)) == 1
}

// modelIsConvex holds each side of the polygon against all joints.
func modelIsConvex(track string) bool {
	joints := modelJoints(track)
	for i := range len(track) {
		sides := map[int]bool{}
		for _, p := range joints {
			sides[modelSide(joints[i], joints[i+1], p)] = true
		}
		if sides[1] && sides[-1] {
			return false
		}
	}
	return modelIsSimple(track)
}

// modelAround is the answer of WindingAround: it adds up the angles under which the chords are seen from the point.
func modelAround(track string, p impl.Point) answer[int] {
	joints, angles := modelJoints(track), 0.0
	x, y := placeOf(p)
	for i := range len(track) {
		if modelBetween(joints[i], joints[i+1], p) {
			return failsAs[int]()
		}
		fromX, fromY := placeOf(joints[i])
		toX, toY := placeOf(joints[i+1])
		angle := math.Atan2(toY-y, toX-x) - math.Atan2(fromY-y, fromX-x)
		angles += math.Remainder(angle, 2*math.Pi)
	}
	return gives(int(math.Round(angles / (2 * math.Pi))))
}

// modelIsSideOfHull tells whether all points are to the left of the line from p to q, or between these.
func modelIsSideOfHull(points []impl.Point, p impl.Point, q impl.Point) bool {
	for _, r := range points {
		side := modelSide(p, q, r)
		if side < 0 || side == 0 && !modelBetween(p, q, r) {
			return false
		}
	}
	return p != q
}

// modelHull goes along the sides of the hull from the corner farthest to the west.
func modelHull(points []impl.Point) []impl.Point {
	first := slices.MinFunc(points, func(p impl.Point, q impl.Point) int {
		if west := modelCompare(modelX(p), modelX(q)); west != 0 {
			return west
		}
		return modelCompare(modelY(p), modelY(q))
	})
	corners := []impl.Point{first}
	for {
		last := corners[len(corners)-1]
		next := slices.IndexFunc(points, func(q impl.Point) bool { return modelIsSideOfHull(points, last, q) })
		if next < 0 || points[next] == first {
			return corners
		}
		corners = append(corners, points[next])
	}
}

func modelNorm(p impl.Point, q impl.Point) impl.Surd {
	east, north := surdsLess(modelX(q), modelX(p)), surdsLess(modelY(q), modelY(p))
	return surdsTogether(surdsTimes(east, east), surdsTimes(north, north))
}

// modelFarthest lists all pairs in their order, and looks for the greatest norm first.
func modelFarthest(points []impl.Point) [2]impl.Point {
	pairs := [][2]impl.Point{}
	for i, p := range points {
		for _, q := range points[i+1:] {
			pairs = append(pairs, [2]impl.Point{p, q})
		}
	}
	if len(pairs) == 0 {
		return [2]impl.Point{points[0], points[0]}
	}
	var norms []impl.Surd
	for _, pair := range pairs {
		norms = append(norms, modelNorm(pair[0], pair[1]))
	}
	greatest := slices.MaxFunc(norms, modelCompare)
	return pairs[slices.Index(norms, greatest)]
}

const maxPlace = 100000

func modelArePlaces(points ...impl.Point) bool {
	for _, p := range points {
		for _, n := range []int{p.A, p.B, p.C, p.D} {
			if n < -maxPlace || n > maxPlace {
				return false
			}
		}
	}
	return true
}
