package tests

import (
	"math"
	"strings"
	"testing"

	"loop.example/g01217/impl"
)

type (
	pointPointCall func(impl.Point, impl.Point) (impl.Point, bool)
	pointIntCall   func(impl.Point, int) (impl.Point, bool)
	pointSurdCall  func(impl.Point) (impl.Surd, bool)
)

var twoPointCalls = map[string]pointPointCall{
	"AddPoints": impl.AddPoints, "LessPoints": impl.LessPoints, "TimesPoints": impl.TimesPoints,
}

var surdOfPointCalls = map[string]pointSurdCall{"NormOf": impl.NormOf, "TwiceX": impl.TwiceX, "TwiceY": impl.TwiceY}

func TestCallsOfNoPoint(t *testing.T) {
	for _, p := range noPoints() {
		same(t, got(impl.MirrorPoint(p)), failsAs[impl.Point](), "MirrorPoint", p)
		same(t, got(impl.PointText(p)), failsAs[string](), "PointText", p)
		for name, call := range surdOfPointCalls {
			same(t, got(call(p)), failsAs[impl.Surd](), name, p)
		}
		for k := range 8 {
			same(t, got(impl.TurnPoint(p, k)), failsAs[impl.Point](), "TurnPoint", p, k)
		}
		for _, k := range []int{-1000, -1, 0, 1, 1000} {
			same(t, got(impl.ScalePoint(p, k)), failsAs[impl.Point](), "ScalePoint", p, k)
		}
	}
}

func TestCallsOfTwoPointsWithNone(t *testing.T) {
	for _, p := range noPoints() {
		for _, q := range append(noPoints(), allPoints()...) {
			for name, call := range twoPointCalls {
				same(t, got(call(p, q)), failsAs[impl.Point](), name, p, q)
				same(t, got(call(q, p)), failsAs[impl.Point](), name, q, p)
			}
			same(t, got(impl.CompareNorms(p, q)), failsAs[int](), "CompareNorms", p, q)
			same(t, got(impl.CompareNorms(q, p)), failsAs[int](), "CompareNorms", q, p)
		}
	}
}

func TestNoHeadings(t *testing.T) {
	for _, k := range noHeadings {
		same(t, got(impl.HeadingPoint(k)), failsAs[impl.Point](), "HeadingPoint", k)
		for _, piece := range []string{"S", "L", "R", "", "X"} {
			same(t, leadOf(piece, k), failsAs[lead](), "StepOf", piece, k)
		}
		for _, p := range append(noPoints(), allPoints()...) {
			same(t, got(impl.TurnPoint(p, k)), failsAs[impl.Point](), "TurnPoint", p, k)
		}
	}
}

func TestNoPieces(t *testing.T) {
	pieces := []string{
		"", " ", "s", "l", "r", "T", "?", "-", "0", "SS", "SL", "LR", "S ", " S", "L\n", "R\x00", "\x00", "\xff", "Ѕ", "Ｌ",
		strings.Repeat("S", 100000),
	}
	for _, piece := range pieces {
		for heading := range 8 {
			same(t, leadOf(piece, heading), failsAs[lead](), "StepOf", piece, heading)
		}
	}
}

func TestNoScales(t *testing.T) {
	for _, k := range []int{math.MinInt, math.MinInt + 1, -1 << 32, -1001, 1001, 1 << 32, math.MaxInt} {
		for _, p := range append(noPoints(), allPoints()...) {
			same(t, got(impl.ScalePoint(p, k)), failsAs[impl.Point](), "ScalePoint", p, k)
		}
	}
}

func TestCallsOfNoSurd(t *testing.T) {
	for _, s := range noSurds() {
		same(t, got(impl.SignOfSurd(s)), failsAs[int](), "SignOfSurd", s)
		for _, u := range append(noSurds(), someSurds()...) {
			same(t, got(impl.AddSurds(s, u)), failsAs[impl.Surd](), "AddSurds", s, u)
			same(t, got(impl.AddSurds(u, s)), failsAs[impl.Surd](), "AddSurds", u, s)
			same(t, got(impl.TimesSurds(s, u)), failsAs[impl.Surd](), "TimesSurds", s, u)
			same(t, got(impl.TimesSurds(u, s)), failsAs[impl.Surd](), "TimesSurds", u, s)
			same(t, got(impl.CompareSurds(s, u)), failsAs[int](), "CompareSurds", s, u)
			same(t, got(impl.CompareSurds(u, s)), failsAs[int](), "CompareSurds", u, s)
		}
	}
}

// anyPoints are points or none, with all of someInts at each place.
func anyPoints() []impl.Point {
	list := allPoints()
	for i, n := range someInts {
		other := someInts[(i*7+3)%len(someInts)]
		list = append(list, pt(n, 0, 0, 0), pt(0, n, other, 0), pt(other, 0, n, 1), pt(n, n, n, n), pt(-1, other, 0, n))
	}
	return list
}

// orNone is the answer of a call that requires what is told by valid.
func orNone[T comparable](valid bool, want func() answer[T]) answer[T] {
	if !valid {
		return failsAs[T]()
	}
	return want()
}

func TestAnyPointsAreAccepted(t *testing.T) {
	for _, p := range anyPoints() {
		for _, q := range anyPoints() {
			valid := modelIsPoint(p) && modelIsPoint(q)
			sum := orNone(valid, func() answer[impl.Point] { return modelSum(p, q, 1) })
			less := orNone(valid, func() answer[impl.Point] { return modelSum(p, q, -1) })
			product := orNone(valid, func() answer[impl.Point] { return modelProduct(p, q) })
			same(t, got(impl.AddPoints(p, q)), sum, "AddPoints", p, q)
			same(t, got(impl.LessPoints(p, q)), less, "LessPoints", p, q)
			same(t, got(impl.TimesPoints(p, q)), product, "TimesPoints", p, q)
		}
	}
}

func TestAnyNumbersAreAccepted(t *testing.T) {
	for _, p := range anyPoints() {
		for _, k := range someInts {
			scaled := orNone(modelIsPoint(p) && -1000 <= k && k <= 1000, func() answer[impl.Point] {
				return modelSum(pt(0, 0, 0, 0), p, int64(k))
			})
			same(t, got(impl.ScalePoint(p, k)), scaled, "ScalePoint", p, k)
			_, turned := impl.TurnPoint(p, k)
			same(t, turned, modelIsPoint(p) && 0 <= k && k <= 7, "TurnPoint succeeds", p, k)
		}
	}
}

func TestAnySurdsAreAccepted(t *testing.T) {
	for _, a := range someInts {
		for _, b := range someInts {
			s, u := surd(a, b), surd(b, 1)
			valid := modelIsSurd(s) && modelIsSurd(u)
			same(t, impl.IsSurd(s), modelIsSurd(s), "IsSurd", s)
			compared := orNone(valid, func() answer[int] { return gives(modelCompare(s, u)) })
			same(t, got(impl.CompareSurds(s, u)), compared, "CompareSurds", s, u)
			signed := orNone(modelIsSurd(s), func() answer[int] { return gives(modelCompare(s, surd(0, 0))) })
			same(t, got(impl.SignOfSurd(s)), signed, "SignOfSurd", s)
			_, fine := impl.TimesSurds(s, u)
			factor := func(n int) bool { return -1000000 <= n && n <= 1000000 }
			same(t, fine, factor(a) && factor(b), "TimesSurds succeeds", s, u)
		}
	}
}
