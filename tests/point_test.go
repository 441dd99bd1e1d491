package tests

import (
	"testing"

	"loop.example/g01217/impl"
)

func TestIsPoint(t *testing.T) {
	same(t, impl.MaxCoord, 999999, "MaxCoord")
	for _, p := range allPoints() {
		same(t, impl.IsPoint(p), true, "IsPoint", p)
	}
	for _, p := range noPoints() {
		same(t, impl.IsPoint(p), false, "IsPoint", p)
	}
}

func TestSumsAndDifferences(t *testing.T) {
	same(t, got(impl.AddPoints(pt(1, 2, 3, 4), pt(10, -20, 30, -40))), gives(pt(11, -18, 33, -36)), "AddPoints")
	same(t, got(impl.LessPoints(pt(1, 2, 3, 4), pt(10, -20, 30, -40))), gives(pt(-9, 22, -27, 44)), "LessPoints")
	for _, p := range allPoints() {
		same(t, got(impl.AddPoints(p, pt(0, 0, 0, 0))), gives(p), "AddPoints", p, 0)
		same(t, got(impl.LessPoints(p, pt(0, 0, 0, 0))), gives(p), "LessPoints", p, 0)
		same(t, got(impl.LessPoints(p, p)), gives(pt(0, 0, 0, 0)), "LessPoints", p, p)
		for _, q := range allPoints() {
			same(t, got(impl.AddPoints(p, q)), modelSum(p, q, 1), "AddPoints", p, q)
			same(t, got(impl.LessPoints(p, q)), modelSum(p, q, -1), "LessPoints", p, q)
		}
	}
}

// oneAt has n at one of the four places.
func oneAt(place int, n int) impl.Point {
	var numbers [4]int
	numbers[place] = n
	return pt(numbers[0], numbers[1], numbers[2], numbers[3])
}

func TestSumsAtTheLimit(t *testing.T) {
	for place := range 4 {
		for _, sign := range []int{-1, 1} {
			p, last := oneAt(place, sign*500000), gives(oneAt(place, sign*999999))
			same(t, got(impl.AddPoints(p, oneAt(place, sign*499999))), last, "AddPoints just a point", place, sign)
			same(t, got(impl.AddPoints(p, p)), failsAs[impl.Point](), "AddPoints just none", place, sign)
			same(t, got(impl.LessPoints(p, oneAt(place, -sign*499999))), last, "LessPoints just a point", place, sign)
			same(t, got(impl.LessPoints(p, oneAt(place, -sign*500000))), failsAs[impl.Point](), "LessPoints just none", place, sign)
		}
	}
}

func TestProducts(t *testing.T) {
	same(t, got(impl.TimesPoints(pt(1, 2, 3, 4), pt(5, 6, 7, 8))), gives(pt(-56, -36, 2, 60)), "TimesPoints")
	same(t, got(impl.TimesPoints(pt(0, 1, 0, 0), pt(0, 0, 0, 1))), gives(pt(-1, 0, 0, 0)), "z times z^3")
	for _, p := range allPoints() {
		same(t, got(impl.TimesPoints(p, pt(1, 0, 0, 0))), gives(p), "TimesPoints", p, 1)
		same(t, got(impl.TimesPoints(p, pt(0, 0, 0, 0))), gives(pt(0, 0, 0, 0)), "TimesPoints", p, 0)
		for _, q := range allPoints() {
			same(t, got(impl.TimesPoints(p, q)), modelProduct(p, q), "TimesPoints", p, q)
		}
	}
}

func TestFourthPowerOfZ(t *testing.T) {
	z, power := pt(0, 1, 0, 0), pt(1, 0, 0, 0)
	wanted := []impl.Point{pt(0, 1, 0, 0), pt(0, 0, 1, 0), pt(0, 0, 0, 1), pt(-1, 0, 0, 0)}
	for k, want := range wanted {
		power = sure(impl.TimesPoints(power, z))
		same(t, power, want, "the power of z", k+1)
	}
}

func TestProductsAtTheLimit(t *testing.T) {
	same(t, got(impl.TimesPoints(pt(999, 0, 0, 0), pt(1001, 0, 0, 0))), gives(pt(999999, 0, 0, 0)), "999 times 1001")
	same(t, got(impl.TimesPoints(pt(1000, 0, 0, 0), pt(1000, 0, 0, 0))), failsAs[impl.Point](), "1000 times 1000")
	same(t, got(impl.TimesPoints(pt(0, 0, 999, 0), pt(0, 0, 1001, 0))), gives(pt(-999999, 0, 0, 0)), "999 z^2 times 1001 z^2")
	same(t, got(impl.TimesPoints(pt(0, 0, 1000, 0), pt(0, 1000, 0, 0))), failsAs[impl.Point](), "1000 z^2 times 1000 z")
	// 665857^2 less twice 470832^2 is 1: the product of these great points is small again.
	same(t, got(impl.TimesPoints(pt(665857, 470832, 0, -470832), pt(665857, -470832, 0, 470832))), gives(pt(1, 0, 0, 0)), "great points")
	for _, p := range greatPoints {
		same(t, got(impl.TimesPoints(p, pt(999999, 0, 0, 0))), failsAs[impl.Point](), "TimesPoints", p, 999999)
	}
}

func TestPointsAreARing(t *testing.T) {
	for _, p := range somePoints {
		for _, q := range somePoints {
			same(t, got(impl.TimesPoints(p, q)), got(impl.TimesPoints(q, p)), "TimesPoints both ways", p, q)
			same(t, got(impl.AddPoints(p, q)), got(impl.AddPoints(q, p)), "AddPoints both ways", p, q)
			difference := sure(impl.LessPoints(p, q))
			same(t, got(impl.AddPoints(difference, q)), gives(p), "p less q and q", p, q)
			for _, r := range []impl.Point{pt(0, 1, 0, 0), pt(0, 0, 1, -1), pt(1, -2, 0, 1)} {
				ringLaws(t, p, q, r)
			}
		}
	}
}

func ringLaws(t *testing.T, p, q, r impl.Point) {
	t.Helper()
	pq, pOK := impl.TimesPoints(p, q)
	qr, qOK := impl.TimesPoints(q, r)
	if !pOK || !qOK {
		return
	}
	same(t, got(impl.TimesPoints(pq, r)), got(impl.TimesPoints(p, qr)), "(p q) r and p (q r)", p, q, r)
	sum := sure(impl.AddPoints(p, r))
	rest := sure(impl.AddPoints(pq, qr))
	same(t, got(impl.TimesPoints(sum, q)), gives(rest), "(p + r) q and p q + r q", p, q, r)
	inner, outer := sure(impl.AddPoints(p, q)), sure(impl.AddPoints(q, r))
	same(t, got(impl.AddPoints(inner, r)), got(impl.AddPoints(p, outer)), "(p + q) + r and p + (q + r)", p, q, r)
}

func TestTurnedPoints(t *testing.T) {
	wanted := []impl.Point{
		pt(1, 2, 3, 4), pt(-4, 1, 2, 3), pt(-3, -4, 1, 2), pt(-2, -3, -4, 1),
		pt(-1, -2, -3, -4), pt(4, -1, -2, -3), pt(3, 4, -1, -2), pt(2, 3, 4, -1),
	}
	for k, want := range wanted {
		same(t, got(impl.TurnPoint(pt(1, 2, 3, 4), k)), gives(want), "TurnPoint", k)
		same(t, got(impl.TurnPoint(pt(0, 0, 0, 0), k)), gives(pt(0, 0, 0, 0)), "TurnPoint 0", k)
		power := sure(impl.HeadingPoint(k))
		for _, p := range allPoints() {
			same(t, got(impl.TurnPoint(p, k)), got(impl.TimesPoints(p, power)), "TurnPoint and TimesPoints", p, k)
			back := sure(impl.TurnPoint(p, k))
			same(t, got(impl.TurnPoint(back, (8-k)%8)), gives(p), "turned and back", p, k)
		}
	}
}

func TestMirroredPoints(t *testing.T) {
	same(t, got(impl.MirrorPoint(pt(1, 2, 3, 4))), gives(pt(1, -4, -3, -2)), "MirrorPoint")
	same(t, got(impl.MirrorPoint(pt(0, 0, 0, 0))), gives(pt(0, 0, 0, 0)), "MirrorPoint 0")
	same(t, got(impl.MirrorPoint(pt(0, 1, 0, 0))), got(impl.HeadingPoint(7)), "MirrorPoint z")
	for _, p := range allPoints() {
		mirrored := sure(impl.MirrorPoint(p))
		same(t, got(impl.MirrorPoint(mirrored)), gives(p), "mirrored twice", p)
		same(t, got(impl.TwiceX(mirrored)), got(impl.TwiceX(p)), "TwiceX mirrored", p)
		north := sure(impl.TwiceY(p))
		same(t, got(impl.TwiceY(mirrored)), gives(surd(-north.Plain, -north.Root)), "TwiceY mirrored", p)
		same(t, got(impl.NormOf(mirrored)), got(impl.NormOf(p)), "NormOf mirrored", p)
	}
}

func TestScaledPoints(t *testing.T) {
	same(t, got(impl.ScalePoint(pt(1, -2, 3, -4), 5)), gives(pt(5, -10, 15, -20)), "ScalePoint")
	for _, p := range allPoints() {
		same(t, got(impl.ScalePoint(p, 0)), gives(pt(0, 0, 0, 0)), "ScalePoint", p, 0)
		same(t, got(impl.ScalePoint(p, 1)), gives(p), "ScalePoint", p, 1)
		for _, k := range []int{-1000, -999, -37, -2, -1, 2, 3, 999, 1000} {
			same(t, got(impl.ScalePoint(p, k)), modelSum(pt(0, 0, 0, 0), p, int64(k)), "ScalePoint", p, k)
		}
	}
	for place := range 4 {
		same(t, got(impl.ScalePoint(oneAt(place, 1001), -999)), gives(oneAt(place, -999999)), "just a point", place)
		same(t, got(impl.ScalePoint(oneAt(place, 999), 1000)), gives(oneAt(place, 999000)), "just a point", place)
		same(t, got(impl.ScalePoint(oneAt(place, 1000), 1000)), failsAs[impl.Point](), "no point any more", place)
		same(t, got(impl.ScalePoint(oneAt(place, -1000), 1000)), failsAs[impl.Point](), "no point any more", place)
		same(t, got(impl.ScalePoint(oneAt(place, 999999), -1000)), failsAs[impl.Point](), "no point any more", place)
	}
}

func TestHeadingPoints(t *testing.T) {
	wanted := []impl.Point{
		pt(1, 0, 0, 0), pt(0, 1, 0, 0), pt(0, 0, 1, 0), pt(0, 0, 0, 1),
		pt(-1, 0, 0, 0), pt(0, -1, 0, 0), pt(0, 0, -1, 0), pt(0, 0, 0, -1),
	}
	for heading, want := range wanted {
		same(t, got(impl.HeadingPoint(heading)), gives(want), "HeadingPoint", heading)
	}
}
