package tests

import (
	"strings"
	"testing"

	"loop.example/g01217/impl"
)

func TestWindingAround(t *testing.T) {
	rows := []struct {
		track   string
		p       impl.Point
		winding int
	}{
		{"LLLLLLLL", pt(0, 0, 1, 0), 1},
		{"RRRRRRRR", pt(0, 0, -1, 0), -1},
		{"LLLLLLLL", pt(0, 0, -1, 0), 0},
		{"LLLLLLLL", pt(9, 0, 0, 0), 0},
		{"LLLLLLLL", pt(-9, 0, 0, 0), 0},
		{"LLLLLLLL", pt(0, 0, 9, 0), 0},
		// In the circle, but not in the octagon.
		{"LLLLLLLL", pt(-6, 6, -2, -3), 0},
		{"SLLLLSLLLL", pt(1, 0, 1, 0), 1},
		{"SRRRRSRRRR", pt(1, 0, -1, 0), -1},

		// At the height of a joint: to the west, inside, and to the east.
		{"SLLLLSLLLL", pt(-2, 0, 1, 0), 0},
		{"SLLLLSLLLL", pt(0, 0, 1, 0), 1},
		{"SLLLLSLLLL", pt(3, 0, 1, 0), 0},
		// At the height of a chord from the west to the east, and of one from the east to the west.
		{"SLLLLSLLLL", pt(-3, 0, 0, 0), 0},
		{"SLLLLSLLLL", pt(3, 0, 0, 0), 0},
		{"SLLLLSLLLL", pt(-3, 0, 2, 0), 0},
		{"SLLLLSLLLL", pt(3, 0, 2, 0), 0},
		// Just inside of a joint and of a chord, and just outside.
		{"SLLLLSLLLL", tiny(2), 1},
		{"SLLLLSLLLL", tiny(6), 0},
		{"SLLLLSLLLL", tiny(4), 0},
		{"SSLLLLSSLLLL", plus(rootOfTwo, tiny(2)), 1},
		{"SSLLLLSSLLLL", plus(rootOfTwo, tiny(6)), 0},
		{"SSRRRRSSRRRR", plus(rootOfTwo, tiny(6)), -1},

		// Around several times.
		{strings.Repeat("L", 16), pt(0, 0, 1, 0), 2},
		{strings.Repeat("L", 40), pt(0, 0, 1, 0), 5},
		{strings.Repeat("R", 40), pt(0, 0, -1, 0), -5},
		{strings.Repeat("L", 40), pt(0, 0, -1, 0), 0},
		{strings.Repeat("SLLLLSLLLL", 4), pt(1, 0, 1, 0), 4},

		// One loop to the left, and one to the right.
		{"LLLLLLLLRRRRRRRR", pt(0, 0, 1, 0), 1},
		{"LLLLLLLLRRRRRRRR", pt(0, 0, -1, 0), -1},
		{"LLLLLLLLRRRRRRRR", pt(2, 0, 0, 0), 0},
		{"LLLLLLSSRRRRRRSS", pt(0, 0, 1, 0), 1},
		// A loop inside of another one, to the same side and to the other one.
		{"SLLLLSLLLLLLLLLLLL", pt(0, 0, 1, 0), 2},
		{"SLLLLSLLLLLLLLLLLL", plus(rootOfTwo, pt(0, 0, 1, 0)), 1},
		{"SSSSLLLLSSSSLLLLLLLLLLLL", pt(3, 0, 1, 0), 1},
		{"SLLLLSLLLLRRRRRRRR", pt(0, 0, 1, 0), 1},
		{"SLLLLSLLLLRRRRRRRR", pt(0, 0, -1, 0), -1},

		// With numbers of the greatest size.
		{"LLLLLLLL", pt(100000, 100000, 100000, 100000), 0},
		{"LLLLLLLL", pt(-100000, 0, 0, 0), 0},
		{"LLLLLLLL", pt(0, 0, 0, -100000), 0},
		{"LLLLLLLL", tiny(2), 1},
		{"LLLLLLLL", tiny(6), 0},
	}
	for _, row := range rows {
		same(t, got(impl.WindingAround(row.track, row.p)), gives(row.winding), "WindingAround", row.track, row.p)
		same(t, modelAround(row.track, row.p), gives(row.winding), "around in the model", row.track, row.p)
	}
}

func TestPointsOnChords(t *testing.T) {
	for _, track := range areaTracks() {
		joints := sure(impl.JointsOf(track))
		for i, p := range joints {
			same(t, got(impl.WindingAround(track, p)), failsAs[int](), "WindingAround a joint", track, p)
			if i == 0 {
				continue
			}
			// The root of two less 1 is about 0.4.
			step := sure(impl.LessPoints(p, joints[i-1]))
			part := sure(impl.TimesPoints(step, pt(-1, 1, 0, -1)))
			on := plus(joints[i-1], part)
			same(t, got(impl.WindingAround(track, on)), failsAs[int](), "WindingAround a point on a chord", track, on)
		}
	}
	same(t, got(impl.WindingAround("SSLLLLSSLLLL", rootOfTwo)), failsAs[int](), "WindingAround a point on a straight")
	same(t, got(impl.WindingAround("SLLLLSLLLL", rootOfTwo)), gives(0), "WindingAround a point behind it")
	same(t, got(impl.WindingAround("LLLLLLLL", pt(1, 1, -2, 2))), failsAs[int](), "WindingAround a point on the chord of a curve")
}

// pointsAround are points near to a track, many at the heights of joints.
func pointsAround(track string, next func(int) int) []impl.Point {
	joints := sure(impl.JointsOf(track))
	var list []impl.Point
	for range 12 {
		p := joints[next(len(joints))]
		list = append(list,
			plus(p, pt(next(7)-3, 0, 0, 0)),
			plus(p, pt(0, next(5)-2, next(5)-2, next(5)-2)),
			plus(p, tiny(next(8))),
			pt(next(9)-4, next(9)-4, next(9)-4, next(9)-4),
		)
	}
	return list
}

func TestWindingAroundLikeTheModel(t *testing.T) {
	next := diceFrom(41)
	counts := map[answer[int]]int{}
	for _, track := range areaTracks() {
		for _, p := range pointsAround(track, next) {
			want := modelAround(track, p)
			counts[want]++
			same(t, got(impl.WindingAround(track, p)), want, "WindingAround", track, p)
		}
	}
	for _, want := range []answer[int]{failsAs[int](), gives(-2), gives(-1), gives(0), gives(1), gives(2)} {
		if counts[want] < 100 {
			t.Error("there are too few points with", want, counts)
		}
	}
}

// TestWindingAroundChangedTracks takes the point with the track, mirrored, laid backwards and from other beginnings.
func TestWindingAroundChangedTracks(t *testing.T) {
	next := diceFrom(43)
	for _, track := range areaTracks() {
		joints, headings := sure(impl.JointsOf(track)), sure(impl.HeadingsOf(track))
		for _, p := range pointsAround(track, next)[:12] {
			told := got(impl.WindingAround(track, p))
			back := answer[int]{-told.value, told.ok}
			mirrored := got(impl.WindingAround(sure(impl.MirrorTrack(track)), sure(impl.MirrorPoint(p))))
			same(t, mirrored, back, "WindingAround mirrored", track, p)
			backward := got(impl.WindingAround(sure(impl.BackTrack(track)), sure(impl.TurnPoint(p, 4))))
			same(t, backward, back, "WindingAround backward", track, p)
			k := next(len(track))
			from := sure(impl.TurnPoint(sure(impl.LessPoints(p, joints[k])), (8-headings[k])%8))
			same(t, got(impl.WindingAround(sure(impl.SpinTrack(track, k)), from)), told, "WindingAround spun", track, p, k)
		}
	}
}
