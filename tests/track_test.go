package tests

import (
	"math"
	"slices"
	"strings"
	"testing"

	"loop.example/g01217/impl"
)

// laidOf puts joints and headings together; it fails if one of both does, or if there are not as many of one as of the other.
func laidOf(track string) answer[string] {
	joints, okJoints := impl.JointsOf(track)
	headings, okHeadings := impl.HeadingsOf(track)
	if !okJoints || !okHeadings || len(joints) != len(headings) {
		return failsAs[string]()
	}
	var list []lead
	for i := range joints {
		list = append(list, lead{joints[i], headings[i]})
	}
	return gives(toldLeads(list))
}

// toldLeads is a text, so that lists are compared as one value.
func toldLeads(list []lead) string {
	var text strings.Builder
	for _, l := range list {
		text.WriteString(sure(impl.PointText(l.to)) + " " + string(rune('0'+l.heading)) + "; ")
	}
	return text.String()
}

func endOf(track string) answer[lead] {
	p, heading, ok := impl.EndOf(track)
	return answer[lead]{lead{p, heading}, ok}
}

func endFrom(track string, start impl.Point, heading int) answer[lead] {
	p, behind, ok := impl.EndFrom(track, start, heading)
	return answer[lead]{lead{p, behind}, ok}
}

func TestIsTrack(t *testing.T) {
	for _, track := range someTracks() {
		same(t, impl.IsTrack(track), true, "IsTrack", track)
	}
	for _, text := range noTracks() {
		same(t, impl.IsTrack(text), false, "IsTrack", text)
	}
	same(t, impl.MaxPieces, 40, "MaxPieces")
}

func TestLaidExamples(t *testing.T) {
	wanted := map[string][]lead{
		"":    {{pt(0, 0, 0, 0), 0}},
		"S":   {{pt(0, 0, 0, 0), 0}, {pt(1, 0, 0, 0), 0}},
		"SL":  {{pt(0, 0, 0, 0), 0}, {pt(1, 0, 0, 0), 0}, {pt(1, 0, 1, -1), 1}},
		"SR":  {{pt(0, 0, 0, 0), 0}, {pt(1, 0, 0, 0), 0}, {pt(1, 1, -1, 0), 7}},
		"LLS": {{pt(0, 0, 0, 0), 0}, {pt(0, 0, 1, -1), 1}, {pt(1, 0, 1, 0), 2}, {pt(1, 0, 2, 0), 2}},
		"RL":  {{pt(0, 0, 0, 0), 0}, {pt(0, 1, -1, 0), 7}, {pt(0, 2, -2, 0), 0}},
		"LLLLLLLL": {
			{pt(0, 0, 0, 0), 0}, {pt(0, 0, 1, -1), 1}, {pt(1, 0, 1, 0), 2}, {pt(0, 1, 1, 0), 3}, {pt(0, 0, 2, 0), 4},
			{pt(0, 0, 1, 1), 5}, {pt(-1, 0, 1, 0), 6}, {pt(0, -1, 1, 0), 7}, {pt(0, 0, 0, 0), 0},
		},
	}
	for track, want := range wanted {
		same(t, laidOf(track), gives(toldLeads(want)), "joints and headings", track)
		same(t, endOf(track), gives(want[len(want)-1]), "EndOf", track)
	}
}

func TestLaidLikeTheModel(t *testing.T) {
	for _, track := range append(tracksUpTo(7), longTracks()...) {
		want := modelLaid(track)
		same(t, laidOf(track), gives(toldLeads(want)), "joints and headings", track)
		same(t, endOf(track), gives(want[len(track)]), "EndOf", track)
	}
}

func TestJointsFollowThePieces(t *testing.T) {
	for _, track := range someTracks() {
		joints, headings := sure(impl.JointsOf(track)), sure(impl.HeadingsOf(track))
		for i := range len(track) {
			step := leadOf(track[i:i+1], headings[i]).value
			same(t, joints[i+1], sure(impl.AddPoints(joints[i], step.to)), "the joint behind piece", i, track)
			same(t, headings[i+1], step.heading, "the heading behind piece", i, track)
		}
	}
}

func TestEndFrom(t *testing.T) {
	same(t, endFrom("SL", pt(5, 0, 0, 0), 2), gives(lead{pt(4, 1, 1, 0), 3}), "EndFrom SL")
	same(t, endFrom("S", pt(1, 2, 3, 4), 7), gives(lead{pt(1, 2, 3, 3), 7}), "EndFrom S")
	same(t, endFrom("", pt(-7, 8, -9, 999999), 5), gives(lead{pt(-7, 8, -9, 999999), 5}), "EndFrom no pieces")
	for _, track := range someTracks() {
		end := endOf(track).value
		same(t, endFrom(track, pt(0, 0, 0, 0), 0), gives(end), "EndFrom 0 with 0", track)
		for heading := range 8 {
			turned := sure(impl.TurnPoint(end.to, heading))
			for _, start := range somePoints {
				want := lead{sure(impl.AddPoints(start, turned)), (heading + end.heading) % 8}
				same(t, endFrom(track, start, heading), gives(want), "EndFrom", track, start, heading)
			}
		}
	}
}

func TestEndFromAtTheLimit(t *testing.T) {
	straight := strings.Repeat("S", 40)
	same(t, endFrom("S", pt(999998, 0, 0, 0), 0), gives(lead{pt(999999, 0, 0, 0), 0}), "just a point")
	same(t, endFrom("S", pt(999999, 0, 0, 0), 0), failsAs[lead](), "just no point")
	same(t, endFrom("S", pt(999999, 0, 0, 0), 4), gives(lead{pt(999998, 0, 0, 0), 4}), "away from the limit")
	same(t, endFrom(straight, pt(0, -999959, 0, 0), 5), gives(lead{pt(0, -999999, 0, 0), 5}), "40 straights")
	same(t, endFrom(straight, pt(0, -999960, 0, 0), 5), failsAs[lead](), "40 straights, one too far")
	same(t, endFrom("L", pt(0, 0, 999999, 0), 0), failsAs[lead](), "a curve, one number too great")
	same(t, endFrom("L", pt(0, 0, 0, -999999), 0), failsAs[lead](), "a curve, another number too great")
	// The joints between them are no points, but start and end are.
	corner := pt(999999, 999999, 999999, -999999)
	for heading := range 8 {
		same(t, endFrom("LLLLLLLL", corner, heading), gives(lead{corner, heading}), "around once", heading)
	}
}

func TestEndFromFails(t *testing.T) {
	for _, track := range []string{"", "S", "SL", "LLLLLLLL", strings.Repeat("S", 40)} {
		for _, p := range noPoints() {
			for heading := range 8 {
				same(t, endFrom(track, p, heading), failsAs[lead](), "EndFrom", track, p, heading)
			}
		}
		for _, heading := range noHeadings {
			same(t, endFrom(track, pt(1, 2, 3, 4), heading), failsAs[lead](), "EndFrom", track, heading)
		}
	}
	for _, text := range noTracks() {
		same(t, endFrom(text, pt(1, 2, 3, 4), 5), failsAs[lead](), "EndFrom", text)
	}
}

func TestEndFromAnyPoint(t *testing.T) {
	for _, track := range []string{"", "S", "RSL", strings.Repeat("L", 17), strings.Repeat("S", 40)} {
		end := endOf(track).value
		for _, p := range anyPoints() {
			for _, heading := range someInts {
				valid := modelIsPoint(p) && 0 <= heading && heading < 8
				want := orNone(valid, func() answer[lead] {
					to := modelSum(p, sure(impl.TurnPoint(end.to, heading)), 1)
					return orNone(to.ok, func() answer[lead] {
						return gives(lead{to.value, (heading + end.heading) % 8})
					})
				})
				same(t, endFrom(track, p, heading), want, "EndFrom", track, p, heading)
			}
		}
	}
}

func TestTurnOfTrack(t *testing.T) {
	wanted := map[string]int{
		"": 0, "S": 0, "L": 1, "R": -1, "LLLLLLLL": 8, "RRRRRRRR": -8, "LRS": 0, "SLLRS": 1, "RRLRS": -2,
		strings.Repeat("L", 40): 40, strings.Repeat("R", 40): -40, strings.Repeat("S", 40): 0,
	}
	for track, want := range wanted {
		same(t, got(impl.TurnOfTrack(track)), gives(want), "TurnOfTrack", track)
	}
	for _, track := range someTracks() {
		turn := sure(impl.TurnOfTrack(track))
		same(t, (turn+40)%8, endOf(track).value.heading, "the turn and the last heading", track)
	}
}

func TestCountPiece(t *testing.T) {
	same(t, got(impl.CountPiece("SSLRS", "S")), gives(3), "CountPiece S")
	same(t, got(impl.CountPiece("SSLRL", "L")), gives(2), "CountPiece L")
	same(t, got(impl.CountPiece("SSLRL", "R")), gives(1), "CountPiece R")
	same(t, got(impl.CountPiece("SSL", "R")), gives(0), "CountPiece of no R")
	same(t, got(impl.CountPiece("", "S")), gives(0), "CountPiece of no pieces")
	same(t, got(impl.CountPiece(strings.Repeat("R", 40), "R")), gives(40), "CountPiece of 40")
	for _, track := range someTracks() {
		straights, lefts, rights := 0, 0, 0
		for _, piece := range track {
			straights += map[rune]int{'S': 1}[piece]
			lefts += map[rune]int{'L': 1}[piece]
			rights += map[rune]int{'R': 1}[piece]
		}
		same(t, got(impl.CountPiece(track, "S")), gives(straights), "CountPiece S", track)
		same(t, got(impl.CountPiece(track, "L")), gives(lefts), "CountPiece L", track)
		same(t, got(impl.CountPiece(track, "R")), gives(rights), "CountPiece R", track)
	}
	for _, piece := range []string{"", "s", "T", "SS", "SL", "LR", "S ", " ", "-", "\xff", strings.Repeat("S", 100)} {
		for _, track := range []string{"", "S", "SLR", "SSLLRR"} {
			same(t, got(impl.CountPiece(track, piece)), failsAs[int](), "CountPiece", track, piece)
		}
	}
}

func TestHeadingCounts(t *testing.T) {
	wanted := map[string][]int{
		"":                      {0, 0, 0, 0, 0, 0, 0, 0},
		"S":                     {1, 0, 0, 0, 0, 0, 0, 0},
		"L":                     {1, 0, 0, 0, 0, 0, 0, 0},
		"LS":                    {1, 1, 0, 0, 0, 0, 0, 0},
		"RS":                    {1, 0, 0, 0, 0, 0, 0, 1},
		"SSRRSLL":               {3, 0, 0, 0, 0, 0, 2, 2},
		"LLLLLLLL":              {1, 1, 1, 1, 1, 1, 1, 1},
		strings.Repeat("S", 40): {40, 0, 0, 0, 0, 0, 0, 0},
		strings.Repeat("R", 39): {5, 4, 5, 5, 5, 5, 5, 5},
	}
	for track, want := range wanted {
		counts, ok := impl.HeadingCounts(track)
		if !ok || !slices.Equal(counts, want) {
			t.Error("HeadingCounts", track, "is", counts, ok, "want", want)
		}
	}
	for _, track := range someTracks() {
		want := make([]int, 8)
		for _, l := range modelLaid(track)[:len(track)] {
			want[l.heading]++
		}
		if counts := sure(impl.HeadingCounts(track)); !slices.Equal(counts, want) {
			t.Error("HeadingCounts", track, "is", counts, "want", want)
		}
	}
}

// farthest is the answer of FarthestJoint.
type farthest struct {
	index int
	norm  impl.Surd
}

func farthestOf(track string) answer[farthest] {
	index, norm, ok := impl.FarthestJoint(track)
	return answer[farthest]{farthest{index, norm}, ok}
}

func TestFarthestJoint(t *testing.T) {
	wanted := map[string]farthest{
		"":                      {0, surd(0, 0)},
		"S":                     {1, surd(1, 0)},
		"SL":                    {2, surd(3, 0)},
		"LLLLLLLL":              {4, surd(4, 0)},
		"LLLLLLLLLLLLLLLL":      {4, surd(4, 0)},
		"RRRRRRRRLLLLLLLL":      {4, surd(4, 0)},
		"SRRRRLLLLS":            {10, surd(20, 0)},
		strings.Repeat("S", 40): {40, surd(1600, 0)},
	}
	for track, want := range wanted {
		same(t, farthestOf(track), gives(want), "FarthestJoint", track)
	}
	for _, track := range append(tracksUpTo(7), longTracks()...) {
		want := farthest{}
		for i, l := range modelLaid(track) {
			if norm := sure(impl.NormOf(l.to)); modelCompare(norm, want.norm) > 0 {
				want = farthest{i, norm}
			}
		}
		same(t, farthestOf(track), gives(want), "FarthestJoint", track)
	}
}

func TestAreSameEnds(t *testing.T) {
	same(t, got(impl.AreSameEnds("", "LLLLLLLL")), gives(true), "no pieces, and around once")
	same(t, got(impl.AreSameEnds("RRRRRRRR", "LLLLLLLL")), gives(true), "around both ways")
	same(t, got(impl.AreSameEnds("", "")), gives(true), "no pieces")
	same(t, got(impl.AreSameEnds("LLSS", "LSSL")), gives(false), "one heading, other points")
	same(t, got(impl.AreSameEnds("", "SLLLLLLS")), gives(false), "one point, other headings")
	same(t, got(impl.AreSameEnds("SSSSS", "SSSS")), gives(false), "one heading")
	for _, a := range tracksUpTo(4) {
		for _, b := range append(tracksUpTo(4), longTracks()...) {
			is := modelLaid(a)[len(a)] == modelLaid(b)[len(b)]
			same(t, got(impl.AreSameEnds(a, b)), gives(is), "AreSameEnds", a, b)
			same(t, got(impl.AreSameEnds(b, a)), gives(is), "AreSameEnds", b, a)
		}
	}
}

// TestPlacesOfEnds checks a few ends in floats, as they are drawn.
func TestPlacesOfEnds(t *testing.T) {
	half := math.Sqrt(0.5)
	wanted := map[string][2]float64{
		"S": {1, 0}, "LL": {1, 1}, "RR": {1, -1}, "LLLL": {0, 2}, "L": {half, 1 - half}, "R": {half, half - 1}, "LS": {2 * half, 1},
	}
	for track, want := range wanted {
		east, north := placeOf(endOf(track).value.to)
		if math.Abs(east-want[0]) > 1e-9 || math.Abs(north-want[1]) > 1e-9 {
			t.Error("EndOf", track, "is at", east, north, "want", want)
		}
	}
}
