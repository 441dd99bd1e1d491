package tests

import (
	"math"
	"testing"

	"loop.example/g01217/impl"
)

// lead is by which point a piece leads, and the heading behind it.
type lead struct {
	to      impl.Point
	heading int
}

func leadOf(piece string, heading int) answer[lead] {
	to, behind, ok := impl.StepOf(piece, heading)
	return answer[lead]{lead{to, behind}, ok}
}

func TestStepsOfStraights(t *testing.T) {
	for heading := range 8 {
		want := lead{sure(impl.HeadingPoint(heading)), heading}
		same(t, leadOf("S", heading), gives(want), "StepOf S", heading)
	}
}

func TestStepsOfCurves(t *testing.T) {
	lefts := []impl.Point{
		pt(0, 0, 1, -1), pt(1, 0, 0, 1), pt(-1, 1, 0, 0), pt(0, -1, 1, 0),
		pt(0, 0, -1, 1), pt(-1, 0, 0, -1), pt(1, -1, 0, 0), pt(0, 1, -1, 0),
	}
	rights := []impl.Point{
		pt(0, 1, -1, 0), pt(0, 0, 1, -1), pt(1, 0, 0, 1), pt(-1, 1, 0, 0),
		pt(0, -1, 1, 0), pt(0, 0, -1, 1), pt(-1, 0, 0, -1), pt(1, -1, 0, 0),
	}
	for heading := range 8 {
		same(t, leadOf("L", heading), gives(lead{lefts[heading], (heading + 1) % 8}), "StepOf L", heading)
		same(t, leadOf("R", heading), gives(lead{rights[heading], (heading + 7) % 8}), "StepOf R", heading)
	}
}

// placeOf tells where a point is, in floats.
func placeOf(p impl.Point) (float64, float64) {
	half := math.Sqrt(0.5)
	east := float64(p.A) + half*float64(p.B-p.D)
	return east, float64(p.C) + half*float64(p.B+p.D)
}

// TestStepsOnCircles checks that the center of a curve has the distance 1 from both of its ends, square to the headings there.
func TestStepsOnCircles(t *testing.T) {
	for heading := range 8 {
		for _, piece := range []string{"L", "R"} {
			side := map[string]float64{"L": 1, "R": -1}[piece]
			step := leadOf(piece, heading)
			before, behind := float64(heading)*math.Pi/4, float64(step.value.heading)*math.Pi/4
			east, north := placeOf(step.value.to)
			wantEast := -side*math.Sin(before) + side*math.Sin(behind)
			wantNorth := side*math.Cos(before) - side*math.Cos(behind)
			if !step.ok || math.Abs(east-wantEast) > 1e-9 || math.Abs(north-wantNorth) > 1e-9 {
				t.Error("StepOf", piece, heading, "leads to", east, north, "instead of", wantEast, wantNorth)
			}
		}
	}
}

func TestStepsTurnedMirroredAndBack(t *testing.T) {
	other := map[string]string{"S": "S", "L": "R", "R": "L"}
	for heading := range 8 {
		for piece, mirrored := range other {
			first, step := leadOf(piece, 0).value, leadOf(piece, heading).value
			same(t, got(impl.TurnPoint(first.to, heading)), gives(step.to), "turned", piece, heading)
			across := leadOf(mirrored, (8-heading)%8)
			same(t, across, gives(lead{sure(impl.MirrorPoint(step.to)), (8 - step.heading) % 8}), "mirrored", piece, heading)
			back := leadOf(mirrored, (step.heading+4)%8)
			same(t, back, gives(lead{sure(impl.ScalePoint(step.to, -1)), (heading + 4) % 8}), "back", piece, heading)
		}
	}
}

func TestEightCurvesComeBack(t *testing.T) {
	for _, piece := range []string{"L", "R"} {
		place, heading := pt(0, 0, 0, 0), 0
		for range 8 {
			step := leadOf(piece, heading).value
			place, heading = sure(impl.AddPoints(place, step.to)), step.heading
		}
		same(t, lead{place, heading}, lead{}, "eight curves", piece)
	}
}
