package impl

import (
	"cmp"
	"math/bits"
	"strconv"
	"strings"
)

const MaxCoord = 999999

const (
	maxSurd      = 1000000000000000
	maxFactor    = 1000000
	maxScale     = 1000
	headingCount = 8
)

type Point struct {
	A int
	B int
	C int
	D int
}

type Surd struct {
	Plain int
	Root  int
}

// step is where a piece leads: the point behind it, and the heading there.
type step struct {
	Point
	heading int
}

// IsPoint reports whether p, whose numbers may be any, is a point.
func IsPoint(p Point) bool { return p == p.clipped() }

// AddPoints returns p and q together.
func AddPoints(p Point, q Point) (Point, bool) {
	if !IsPoint(p) || !IsPoint(q) {
		return Point{}, false
	}
	return onlyPoint(p.plus(q))
}

// LessPoints returns p less q.
func LessPoints(p Point, q Point) (Point, bool) {
	if !IsPoint(p) || !IsPoint(q) {
		return Point{}, false
	}
	return onlyPoint(p.less(q))
}

// TimesPoints returns the product.
func TimesPoints(p Point, q Point) (Point, bool) {
	if !IsPoint(p) || !IsPoint(q) {
		return Point{}, false
	}
	return onlyPoint(p.times(q))
}

// TurnPoint returns p times z^k, k in 0..7.
func TurnPoint(p Point, k int) (Point, bool) {
	if !IsPoint(p) || !isHeading(k) {
		return Point{}, false
	}
	return p.times(power(k)), true
}

// MirrorPoint returns the point on the other side of the line from the west to the east: z becomes z^7.
func MirrorPoint(p Point) (Point, bool) {
	if !IsPoint(p) {
		return Point{}, false
	}
	return p.mirror(), true
}

// ScalePoint returns k times p, k in -1000..1000.
func ScalePoint(p Point, k int) (Point, bool) {
	if !IsPoint(p) || !isWithin(k, maxScale) {
		return Point{}, false
	}
	return onlyPoint(p.scaled(k))
}

// HeadingPoint returns z^heading.
func HeadingPoint(heading int) (Point, bool) {
	if !isHeading(heading) {
		return Point{}, false
	}
	return power(heading), true
}

// StepOf returns by which point a piece leads with a heading, and the heading behind it.
func StepOf(piece string, heading int) (Point, int, bool) {
	lay := layingOf(piece)
	if lay == nil || !isHeading(heading) {
		return Point{}, 0, false
	}
	behind := lay(step{heading: heading})
	return behind.Point, behind.heading, true
}

// NormOf returns the square of the distance from 0: a surd that is never less than 0.
func NormOf(p Point) (Surd, bool) {
	if !IsPoint(p) {
		return Surd{}, false
	}
	return p.norm(), true
}

// TwiceX returns twice the number of a point to the east: 2 A and B - D times the root of two.
func TwiceX(p Point) (Surd, bool) {
	if !IsPoint(p) {
		return Surd{}, false
	}
	return p.twiceX(), true
}

// TwiceY returns twice the number to the north: 2 C and B + D times the root of two.
func TwiceY(p Point) (Surd, bool) {
	if !IsPoint(p) {
		return Surd{}, false
	}
	return p.twiceY(), true
}

// IsSurd reports whether s, whose numbers may be any, is a surd.
func IsSurd(s Surd) bool { return s.isWithin(maxSurd) }

// AddSurds returns the sum.
func AddSurds(s Surd, t Surd) (Surd, bool) {
	if !IsSurd(s) || !IsSurd(t) {
		return Surd{}, false
	}
	return onlySurd(s.plus(t))
}

// TimesSurds returns the product, for surds whose numbers are at most 10^6 in size.
func TimesSurds(s Surd, t Surd) (Surd, bool) {
	if !s.isWithin(maxFactor) || !t.isWithin(maxFactor) {
		return Surd{}, false
	}
	plain := s.Plain*t.Plain + 2*s.Root*t.Root
	return Surd{Plain: plain, Root: s.Plain*t.Root + s.Root*t.Plain}, true
}

// SignOfSurd returns -1, 0 or 1, as it is less than 0, 0, or greater.
func SignOfSurd(s Surd) (int, bool) {
	if !IsSurd(s) {
		return 0, false
	}
	return s.sign(), true
}

// CompareSurds returns -1, 0 or 1, as s is less than t, the same, or greater.
func CompareSurds(s Surd, t Surd) (int, bool) {
	if !IsSurd(s) || !IsSurd(t) {
		return 0, false
	}
	return s.compare(t), true
}

// CompareNorms compares the norms of two points in the same way.
func CompareNorms(p Point, q Point) (int, bool) {
	if !IsPoint(p) || !IsPoint(q) {
		return 0, false
	}
	return p.norm().compare(q.norm()), true
}

// PointText returns A, B, C and D with , between them.
func PointText(p Point) (string, bool) {
	if !IsPoint(p) {
		return "", false
	}
	words := []string{strconv.Itoa(p.A), strconv.Itoa(p.B), strconv.Itoa(p.C), strconv.Itoa(p.D)}
	return strings.Join(words, ","), true
}

// ParsePoint returns the point with a PointText. It fails if there is none.
func ParsePoint(s string) (Point, bool) {
	var numbers [4]int
	// One word more than there may be is enough to tell that there are too many.
	words := strings.SplitN(s, ",", len(numbers)+1)
	if len(words) != len(numbers) {
		return Point{}, false
	}
	for i, word := range words {
		number, err := strconv.Atoi(word)
		if err != nil {
			return Point{}, false
		}
		numbers[i] = number
	}
	p := Point{A: numbers[0], B: numbers[1], C: numbers[2], D: numbers[3]}
	// Atoi also reads +1, -0 and 01: no point has a text with these.
	if text, ok := PointText(p); !ok || text != s {
		return Point{}, false
	}
	return p, true
}

// onlyPoint lets no result out that is no point.
func onlyPoint(p Point) (Point, bool) {
	if !IsPoint(p) {
		return Point{}, false
	}
	return p, true
}

// onlySurd lets no result out that is no surd.
func onlySurd(s Surd) (Surd, bool) {
	if !IsSurd(s) {
		return Surd{}, false
	}
	return s, true
}

// isWithin compares with both bounds, as the least int has no size of its own.
func isWithin(n int, limit int) bool { return -limit <= n && n <= limit }

func isHeading(h int) bool { return 0 <= h && h < headingCount }

// turnedHeading keeps the sum at least 0 for k of at least -8, as % keeps the sign.
func turnedHeading(h int, k int) int { return (h + k + headingCount) % headingCount }

// power returns z^k, k in 0..7; the upper half is the lower one negated, as z^4 = -1.
func power(k int) Point {
	sign := 1
	if k >= headingCount/2 {
		sign = -1
	}
	var numbers [headingCount / 2]int
	numbers[k%len(numbers)] = sign
	return Point{A: numbers[0], B: numbers[1], C: numbers[2], D: numbers[3]}
}

// layingOf returns how a piece is laid, nil for a text that is no piece.
func layingOf(piece string) func(step) step {
	switch piece {
	case "S":
		return step.straight
	case "L":
		return step.left
	case "R":
		return step.right
	}
	return nil
}

func (s step) straight() step {
	return step{Point: s.plus(power(s.heading)), heading: s.heading}
}

func (s step) left() step { return s.curve(1) }

func (s step) right() step { return s.curve(-1) }

// curve turns by an eighth to a side, 1 for the left, and leads by z^(h - side) - z^(h - 2 side).
func (s step) curve(side int) step {
	out := power(turnedHeading(s.heading, -side))
	back := power(turnedHeading(s.heading, -2*side)).scaled(-1)
	return step{Point: s.plus(out).plus(back), heading: turnedHeading(s.heading, side)}
}

func (p Point) clipped() Point {
	return Point{A: clip(p.A), B: clip(p.B), C: clip(p.C), D: clip(p.D)}
}

func clip(n int) int { return max(-MaxCoord, min(n, MaxCoord)) }

func (p Point) plus(q Point) Point {
	return Point{A: p.A + q.A, B: p.B + q.B, C: p.C + q.C, D: p.D + q.D}
}

func (p Point) less(q Point) Point { return p.plus(q.scaled(-1)) }

func (p Point) scaled(k int) Point {
	return Point{A: k * p.A, B: k * p.B, C: k * p.C, D: k * p.D}
}

// times multiplies each number with each other one; those of z^4 and more come back with the other sign.
func (p Point) times(q Point) Point {
	return Point{
		A: p.A*q.A - p.B*q.D - p.C*q.C - p.D*q.B,
		B: p.A*q.B + p.B*q.A - p.C*q.D - p.D*q.C,
		C: p.A*q.C + p.B*q.B + p.C*q.A - p.D*q.D,
		D: p.A*q.D + p.B*q.C + p.C*q.B + p.D*q.A,
	}
}

func (p Point) mirror() Point { return Point{A: p.A, B: -p.D, C: -p.C, D: -p.B} }

func (p Point) twiceX() Surd { return Surd{Plain: 2 * p.A, Root: p.B - p.D} }

func (p Point) twiceY() Surd { return Surd{Plain: 2 * p.C, Root: p.B + p.D} }

// norm is the product of a point and its mirrored one, in which z - z^3 is the root of two.
func (p Point) norm() Surd {
	return Surd{
		Plain: p.A*p.A + p.B*p.B + p.C*p.C + p.D*p.D,
		Root:  p.A*p.B + p.B*p.C + p.C*p.D - p.D*p.A,
	}
}

func (s Surd) isWithin(limit int) bool {
	return isWithin(s.Plain, limit) && isWithin(s.Root, limit)
}

func (s Surd) plus(t Surd) Surd { return Surd{Plain: s.Plain + t.Plain, Root: s.Root + t.Root} }

func (s Surd) less(t Surd) Surd { return Surd{Plain: s.Plain - t.Plain, Root: s.Root - t.Root} }

// compare takes the difference itself, which may be too great for a surd, but not for sign.
func (s Surd) compare(t Surd) int { return s.less(t).sign() }

// sign is that of the part that is greater in size. Squares tell which one without rounding, and never
// as the same but for 0, as the root of two is no fraction; at 10^15 they need more than 64 bits.
func (s Surd) sign() int {
	plain, root := sizeOf(s.Plain), sizeOf(s.Root)
	plainHigh, plainLow := bits.Mul64(plain, plain)
	rootHigh, rootLow := bits.Mul64(2*root, root)
	if plainHigh > rootHigh || plainHigh == rootHigh && plainLow > rootLow {
		return cmp.Compare(s.Plain, 0)
	}
	return cmp.Compare(s.Root, 0)
}

func sizeOf(n int) uint64 { return uint64(max(n, -n)) }
