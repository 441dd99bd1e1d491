package tests

import (
	"testing"

	"loop.example/g01217/impl"
)

func TestNorms(t *testing.T) {
	wanted := map[impl.Point]impl.Surd{
		pt(0, 0, 0, 0):                      surd(0, 0),
		pt(0, 0, 1, -1):                     surd(2, -1),
		pt(-3, 0, 0, 0):                     surd(9, 0),
		pt(1, 2, 3, 4):                      surd(30, 16),
		pt(1, 0, 0, 1):                      surd(2, -1),
		pt(1, 1, 0, -1):                     surd(3, 2),
		pt(999999, 999999, 999999, 999999):  surd(3999992000004, 1999996000002),
		pt(999999, -999999, 999999, 999999): surd(3999992000004, -1999996000002),
		pt(665857, -470832, 0, 470832):      surd(886731088897, -627013566048),
	}
	for p, want := range wanted {
		same(t, got(impl.NormOf(p)), gives(want), "NormOf", p)
	}
}

func TestNormsAreNeverLessThanZero(t *testing.T) {
	for _, p := range allPoints() {
		want := 1
		if p == pt(0, 0, 0, 0) {
			want = 0
		}
		same(t, got(impl.SignOfSurd(sure(impl.NormOf(p)))), gives(want), "the sign of the norm of", p)
	}
}

func TestNormsAreMultiplied(t *testing.T) {
	for _, p := range somePoints {
		for _, q := range somePoints {
			product, ok := impl.TimesPoints(p, q)
			if !ok {
				continue
			}
			norms := got(impl.TimesSurds(sure(impl.NormOf(p)), sure(impl.NormOf(q))))
			same(t, norms, got(impl.NormOf(product)), "the norm of the product", p, q)
		}
	}
}

// TestNormsAndPlaces checks that four times the norm is the square of twice the number to the east and that of twice the one to the north together.
func TestNormsAndPlaces(t *testing.T) {
	for _, p := range somePoints {
		east, north := sure(impl.TwiceX(p)), sure(impl.TwiceY(p))
		squares := sure(impl.AddSurds(sure(impl.TimesSurds(east, east)), sure(impl.TimesSurds(north, north))))
		norm := sure(impl.NormOf(p))
		same(t, squares, surd(4*norm.Plain, 4*norm.Root), "four times the norm", p)
	}
}

func TestNormsOfTurnedPoints(t *testing.T) {
	for _, p := range allPoints() {
		for k := range 8 {
			same(t, got(impl.NormOf(sure(impl.TurnPoint(p, k)))), got(impl.NormOf(p)), "NormOf turned", p, k)
		}
	}
}

func TestTwiceXAndTwiceY(t *testing.T) {
	same(t, got(impl.TwiceX(pt(0, 1, 0, 0))), gives(surd(0, 1)), "TwiceX of z")
	same(t, got(impl.TwiceX(pt(1, 20, 300, 4000))), gives(surd(2, -3980)), "TwiceX")
	same(t, got(impl.TwiceY(pt(1, 20, 300, 4000))), gives(surd(600, 4020)), "TwiceY")
	same(t, got(impl.TwiceX(pt(0, 0, 0, 0))), gives(surd(0, 0)), "TwiceX of 0")
	same(t, got(impl.TwiceY(pt(0, 0, 0, 0))), gives(surd(0, 0)), "TwiceY of 0")
	same(t, got(impl.TwiceX(pt(999999, 999999, -999999, -999999))), gives(surd(1999998, 1999998)), "TwiceX at the limit")
	same(t, got(impl.TwiceY(pt(999999, -999999, -999999, -999999))), gives(surd(-1999998, -1999998)), "TwiceY at the limit")
	for _, p := range allPoints() {
		quarter := sure(impl.TurnPoint(p, 2))
		same(t, got(impl.TwiceY(quarter)), got(impl.TwiceX(p)), "TwiceY of a quarter of a turn", p)
	}
}

func TestCompareNorms(t *testing.T) {
	same(t, got(impl.CompareNorms(pt(0, 0, 1, -1), pt(1, 0, 0, 0))), gives(-1), "a curve and a straight")
	same(t, got(impl.CompareNorms(pt(1, 0, 0, 0), pt(0, 0, 1, -1))), gives(1), "a straight and a curve")
	same(t, got(impl.CompareNorms(pt(3, 0, 0, 0), pt(0, 0, 0, -3))), gives(0), "two of one norm")
	same(t, got(impl.CompareNorms(pt(0, 0, 0, 0), pt(0, 0, 0, 0))), gives(0), "0 and 0")
	// 470832 times the root of two is a little less than 665857.
	same(t, got(impl.CompareNorms(pt(665857, 0, 0, 0), pt(0, 470832, 0, -470832))), gives(1), "nearly the same")
	same(t, got(impl.CompareNorms(pt(0, 470832, 0, -470832), pt(665857, 0, 0, 0))), gives(-1), "nearly the same")
	for _, p := range allPoints() {
		for _, q := range allPoints() {
			norms := modelCompare(sure(impl.NormOf(p)), sure(impl.NormOf(q)))
			same(t, got(impl.CompareNorms(p, q)), gives(norms), "CompareNorms", p, q)
		}
	}
}
