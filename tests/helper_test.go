package tests

import (
	"fmt"
	"math"
	"testing"

	"loop.example/g01217/impl"
)

// answer is what a call returns, so that both results are compared at once.
type answer[T comparable] struct {
	value T
	ok    bool
}

func got[T comparable](value T, ok bool) answer[T] { return answer[T]{value, ok} }

func gives[T comparable](value T) answer[T] { return answer[T]{value, true} }

// failsAs is the answer of a failed call: the zero value and false.
func failsAs[T comparable]() answer[T] { return answer[T]{} }

func same[T comparable](t *testing.T, is T, want T, call ...any) {
	t.Helper()
	if is != want {
		t.Errorf("%v: is %+v, want %+v", call, is, want)
	}
}

// sure is the value of a call that has to succeed; the test ends where it does not.
func sure[T any](value T, ok bool) T {
	if !ok {
		panic("a call failed that should succeed")
	}
	return value
}

// printed is the answer of a call as a text, so that lists are compared at once. A call that fails with anything but a zero value keeps its text.
func printed[T any](value T, ok bool) answer[string] {
	var zero T
	text := fmt.Sprint(value)
	if !ok && text == fmt.Sprint(zero) {
		return failsAs[string]()
	}
	return answer[string]{text, ok}
}

// diceFrom returns a function that gives numbers in 0..n - 1, the same ones for the same seed.
func diceFrom(seed uint32) func(n int) int {
	return func(n int) int {
		seed = seed*1664525 + 1013904223
		return int(seed>>8) % n
	}
}

func pt(a, b, c, d int) impl.Point { return impl.Point{A: a, B: b, C: c, D: d} }

func surd(plain, root int) impl.Surd { return impl.Surd{Plain: plain, Root: root} }

const maxSurd = 1000000000000000

// someInts are numbers at the limits and just past them, and others.
var someInts = []int{
	math.MinInt, math.MinInt + 1, -maxSurd - 1, -maxSurd, -1 << 32,
	-1000001, -1000000, -999999, -1001, -1000, -8, -7, -1, 0, 1, 2, 7, 8, 1000, 1001,
	999999, 1000000, 1000001, 1 << 32, maxSurd, maxSurd + 1, math.MaxInt - 1, math.MaxInt,
}

// noCoords are numbers that no point has.
var noCoords = []int{
	math.MinInt, math.MinInt + 1, -maxSurd, -1000001, -1000000, 1000000, 1000001, 1 << 32, maxSurd, math.MaxInt,
}

// noHeadings are numbers that are no headings; some of them are headings modulo 8, or modulo 2^32.
var noHeadings = []int{math.MinInt, math.MinInt + 1, -8, -7, -1, 8, 9, 15, 16, 1 << 32, math.MaxInt - 7, math.MaxInt}

// somePoints are points of all signs, small and great, with zeros at each place.
var somePoints = []impl.Point{
	{}, pt(1, 0, 0, 0), pt(0, 1, 0, 0), pt(0, 0, 1, 0), pt(0, 0, 0, 1), pt(-1, 0, 0, 0), pt(0, 0, 1, -1),
	pt(1, 1, 0, -1), pt(1, -1, 0, 1), pt(2, 3, 5, 7), pt(-11, 13, -17, 19), pt(23, -29, -31, 37), pt(-3, -3, -3, -3),
	pt(400, 300, 0, -200), pt(0, 0, 0, 499), pt(-500, 1, 0, 2),
}

// greatPoints have numbers at the limit.
var greatPoints = []impl.Point{
	pt(999999, 999999, 999999, 999999), pt(-999999, -999999, -999999, -999999), pt(999999, -999999, 999999, -999999),
	pt(-999999, 999999, 999999, 999999), pt(999999, 0, 0, 0), pt(0, -999999, 0, 0), pt(0, 0, 999999, 0),
	pt(0, 0, 0, -999999), pt(665857, 470832, 0, -470832), pt(665857, -470832, 0, 470832),
}

func allPoints() []impl.Point { return append(append([]impl.Point{}, somePoints...), greatPoints...) }

// noPoints have one number that is none of a point, each at each place.
func noPoints() []impl.Point {
	var list []impl.Point
	for _, n := range noCoords {
		list = append(list, pt(n, 0, 0, 0), pt(0, n, 0, 0), pt(1, 2, n, 3), pt(-1, 0, 5, n))
	}
	return append(list, pt(math.MinInt, math.MaxInt, math.MinInt, math.MaxInt))
}

// noSurds have one number that is none of a surd, at each place, or both.
func noSurds() []impl.Surd {
	var list []impl.Surd
	for _, n := range []int{math.MinInt, math.MinInt + 1, -maxSurd - 1, maxSurd + 1, math.MaxInt - 1, math.MaxInt} {
		list = append(list, surd(n, 0), surd(0, n), surd(n, n), surd(n, -maxSurd))
	}
	return list
}
