package tests

import (
	"math"
	"strings"
	"testing"

	"loop.example/g01217/impl"
)

// fourArea is the answer of FourArea with both parts as one value.
func fourArea(track string) answer[area] {
	s, n, ok := impl.FourArea(track)
	return answer[area]{area{s, n}, ok}
}

func less(s impl.Surd) impl.Surd { return surd(-s.Plain, -s.Root) }

func TestAreas(t *testing.T) {
	rows := []struct {
		track   string
		polygon impl.Surd
		surd    impl.Surd
		number  int
	}{
		{"LLLLLLLL", surd(0, 8), surd(0, 0), 1},
		{"RRRRRRRR", surd(0, -8), surd(0, 0), -1},
		{"SLLLLSLLLL", surd(8, 8), surd(8, 0), 1},
		{"LLSLLLLSLL", surd(8, 8), surd(8, 0), 1},
		{"SRRRRSRRRR", surd(-8, -8), surd(-8, 0), -1},
		// A square of 1 by 1, four more at its sides, and a quarter of a circle at each corner.
		{"LLSLLSLLSLLS", surd(20, 8), surd(20, 0), 1},
		// An octagon with sides of 1, eight squares at these, and an eighth of a circle at each corner.
		{strings.Repeat("LS", 8), surd(40, 16), surd(40, 8), 1},
		{strings.Repeat("S", 16) + "LLLL" + strings.Repeat("S", 16) + "LLLL", surd(128, 8), surd(128, 0), 1},
		// A curve to the left and one to the right take as much away as they give.
		{"LLLLLRLLLLLR", surd(0, 16), surd(0, 8), 1},
		{"RRRRRLRRRRRL", surd(0, -16), surd(0, -8), -1},
		// Around several times.
		{strings.Repeat("L", 16), surd(0, 16), surd(0, 0), 2},
		{strings.Repeat("L", 40), surd(0, 40), surd(0, 0), 5},
		{strings.Repeat("R", 40), surd(0, -40), surd(0, 0), -5},
		{strings.Repeat("SLLLLSLLLL", 4), surd(32, 32), surd(32, 0), 4},
		// As often to the left as to the right.
		{"LLLLLLLLRRRRRRRR", surd(0, 0), surd(0, 0), 0},
		{"SLLLLSLLLLRRRRRRRR", surd(8, 0), surd(8, 0), 0},
		{"LLLLLLSSRRRRRRSS", surd(0, 0), surd(0, 0), 0},
		{"LLLLLLLLSRRRRSRRRR", surd(-8, 0), surd(-8, 0), 0},
	}
	for _, row := range rows {
		same(t, got(impl.FourPolygon(row.track)), gives(row.polygon), "FourPolygon", row.track)
		same(t, fourArea(row.track), gives(area{row.surd, row.number}), "FourArea", row.track)
	}
}

func TestAreasLikeTheModel(t *testing.T) {
	counts := map[int]int{}
	for _, track := range closedOnes() {
		same(t, got(impl.FourPolygon(track)), gives(modelFourPolygon(modelJoints(track))), "FourPolygon", track)
		same(t, fourArea(track), gives(modelFourArea(track)), "FourArea", track)
		same(t, modelFourArea(track).number, sure(impl.WindingOf(track)), "the number is the winding", track)
		counts[max(-2, min(modelWinding(track), 2))]++
	}
	for _, winding := range []int{-2, -1, 0, 1, 2} {
		if counts[winding] < 50 {
			t.Error("there are too few tracks of the winding", winding, counts)
		}
	}
}

// TestAreasOfMirroredBackwardAndSpunTracks checks that areas are lost as often as they are gained if tracks are mirrored or laid backwards, and stay from each beginning.
func TestAreasOfMirroredBackwardAndSpunTracks(t *testing.T) {
	for _, track := range closedOnes() {
		polygon, told := sure(impl.FourPolygon(track)), fourArea(track)
		lost := gives(area{less(told.value.surd), -told.value.number})
		for _, other := range []string{sure(impl.MirrorTrack(track)), sure(impl.BackTrack(track))} {
			same(t, got(impl.FourPolygon(other)), gives(less(polygon)), "FourPolygon", other, "of", track)
			same(t, fourArea(other), lost, "FourArea", other, "of", track)
		}
		for k := range track {
			spun := sure(impl.SpinTrack(track, k))
			same(t, got(impl.FourPolygon(spun)), gives(polygon), "FourPolygon spun", track, k)
			same(t, fourArea(spun), told, "FourArea spun", track, k)
		}
	}
}

func TestAreasAreAdded(t *testing.T) {
	short := shortClosed()
	for i, a := range short {
		b := short[(i*31+5)%len(short)]
		both := sure(impl.JoinTracks(a, b))
		sum := surdsTogether(sure(impl.FourPolygon(a)), sure(impl.FourPolygon(b)))
		same(t, got(impl.FourPolygon(both)), gives(sum), "FourPolygon", both)
		one, other := fourArea(a).value, fourArea(b).value
		same(t, fourArea(both), gives(area{surdsTogether(one.surd, other.surd), one.number + other.number}), "FourArea", both)
	}
}

// TestAreasOfWindings adds up small squares, each as often as the polygon goes around its middle.
func TestAreasOfWindings(t *testing.T) {
	tracks := []string{"LLLLLLLL", "SRRRRSRRRR", "SLLLLSLLLLRRRRRRRR", "LLLLLLLLLLLLLLLL", "LLLLLLLRSSRRRRRSSR", "SLLLLSLLLLSRRRRSRRRR"}
	for _, track := range tracks {
		count := 0
		for a := -70; a <= 70; a++ {
			for b := -70; b <= 70; b++ {
				// The sides of the squares are 5 times the root of two less 7.
				p := pt(-7*a, 5*a+5*b, -7*b, 5*b-5*a)
				winding, _ := impl.WindingAround(track, p)
				count += winding
			}
		}
		side := 5*math.Sqrt2 - 7
		polygon := sure(impl.FourPolygon(track))
		wanted := (float64(polygon.Plain) + math.Sqrt2*float64(polygon.Root)) / 4
		if is := float64(count) * side * side; math.Abs(is-wanted) > 0.2 {
			t.Error("FourPolygon", track, "is four times", wanted, "and the squares are", is)
		}
	}
}

type reach struct {
	wide impl.Surd
	high impl.Surd
}

func reachOf(track string) answer[reach] {
	wide, isWide := impl.WidthOf(track)
	high, isHigh := impl.HeightOf(track)
	return answer[reach]{reach{wide, high}, isWide && isHigh}
}

func TestWidthsAndHeights(t *testing.T) {
	wanted := map[string]reach{
		"":                      {surd(0, 0), surd(0, 0)},
		"S":                     {surd(2, 0), surd(0, 0)},
		"L":                     {surd(0, 1), surd(2, -1)},
		"R":                     {surd(0, 1), surd(2, -1)},
		"LL":                    {surd(2, 0), surd(2, 0)},
		"LR":                    {surd(0, 2), surd(4, -2)},
		"LLS":                   {surd(2, 0), surd(4, 0)},
		"LLLL":                  {surd(2, 0), surd(4, 0)},
		"LLLLLL":                {surd(4, 0), surd(4, 0)},
		"LLLLLLLL":              {surd(4, 0), surd(4, 0)},
		"RRRRRRRR":              {surd(4, 0), surd(4, 0)},
		"SLLLLSLLLL":            {surd(6, 0), surd(4, 0)},
		"LLSLLLLSLL":            {surd(4, 0), surd(6, 0)},
		"LSLLLLSLLL":            {surd(4, 1), surd(4, 1)},
		"SSLLLLSSSSSS":          {surd(14, 0), surd(4, 0)},
		"LLLLLLLLRRRRRRRR":      {surd(4, 0), surd(8, 0)},
		strings.Repeat("S", 40): {surd(80, 0), surd(0, 0)},
		strings.Repeat("L", 40): {surd(4, 0), surd(4, 0)},
		strings.Repeat("L", 2) + strings.Repeat("S", 38):   {surd(2, 0), surd(78, 0)},
		strings.Repeat("LR", 20):                           {surd(0, 40), surd(80, -40)},
		"L" + strings.Repeat("S", 38) + "R":                {surd(0, 40), surd(4, 36)},
		strings.Repeat("R", 4) + strings.Repeat("S", 36):   {surd(74, 0), surd(4, 0)},
		strings.Repeat("L", 3) + strings.Repeat("SSSS", 9): {surd(2, 35), surd(2, 37)},
	}
	for track, want := range wanted {
		same(t, reachOf(track), gives(want), "WidthOf and HeightOf", track)
	}
}

func TestWidthsAndHeightsLikeTheModel(t *testing.T) {
	for _, track := range append(someTracks(), closedOnes()...) {
		joints := modelJoints(track)
		want := reach{modelReach(joints, modelX), modelReach(joints, modelY)}
		same(t, reachOf(track), gives(want), "WidthOf and HeightOf", track)
		same(t, reachOf(sure(impl.MirrorTrack(track))), gives(want), "mirrored", track)
	}
}

// TestWidthsOfSpunTracks checks that widths and heights stay if a closed track is laid from a joint with the heading 0 or 4, and are exchanged from one with 2 or 6.
func TestWidthsOfSpunTracks(t *testing.T) {
	for _, track := range closedOnes() {
		told := reachOf(track)
		exchanged := gives(reach{told.value.high, told.value.wide})
		same(t, reachOf(sure(impl.BackTrack(track))), told, "backward", track)
		for k, heading := range sure(impl.HeadingsOf(track))[:len(track)] {
			spun := sure(impl.SpinTrack(track, k))
			switch heading % 4 {
			case 0:
				same(t, reachOf(spun), told, "spun", track, k)
			case 2:
				same(t, reachOf(spun), exchanged, "spun", track, k)
			}
		}
	}
}
