package tests

import (
	"testing"

	"loop.example/g01217/impl"
)

// rootAtLimit times the root of two is just less than 10^15.
const rootAtLimit = 707106781186547

// someSurds have parts of all signs, small ones, nearly the same ones and ones at the limit.
func someSurds() []impl.Surd {
	sizes := [][2]int{
		{0, 0}, {0, 1}, {1, 0}, {1, 1}, {2, 1}, {3, 2}, {7, 5}, {17, 12}, {1000000, 1}, {1, 1000000}, {1000000, 1000000},
		{1414213, 1000000}, {1414214, 1000000}, {665857, 470832}, {941664, 665857},
		{maxSurd, 0}, {0, maxSurd}, {maxSurd, maxSurd}, {maxSurd, maxSurd - 1}, {maxSurd - 1, maxSurd},
		{maxSurd, rootAtLimit}, {maxSurd, rootAtLimit + 1}, {maxSurd - 1, rootAtLimit}, {maxSurd / 2, maxSurd / 2},
	}
	for plain, root := 1, 1; plain <= maxSurd; plain, root = plain+2*root, plain+root {
		sizes = append(sizes, [2]int{plain, root}, [2]int{plain, root + 1}, [2]int{plain - 1, root})
	}
	var list []impl.Surd
	for _, s := range sizes {
		list = append(list, surd(s[0], s[1]), surd(-s[0], s[1]), surd(s[0], -s[1]), surd(-s[0], -s[1]))
	}
	return list
}

func TestIsSurd(t *testing.T) {
	for _, s := range someSurds() {
		same(t, impl.IsSurd(s), true, "IsSurd", s)
	}
	for _, s := range noSurds() {
		same(t, impl.IsSurd(s), false, "IsSurd", s)
	}
}

func TestAddSurds(t *testing.T) {
	same(t, got(impl.AddSurds(surd(1, -2), surd(30, 40))), gives(surd(31, 38)), "AddSurds")
	same(t, got(impl.AddSurds(surd(maxSurd-1, 0), surd(1, maxSurd))), gives(surd(maxSurd, maxSurd)), "just a surd")
	same(t, got(impl.AddSurds(surd(maxSurd, 0), surd(1, 0))), failsAs[impl.Surd](), "no surd any more")
	same(t, got(impl.AddSurds(surd(0, -maxSurd), surd(0, -1))), failsAs[impl.Surd](), "no surd any more")
	same(t, got(impl.AddSurds(surd(0, 1-maxSurd), surd(-maxSurd, -1))), gives(surd(-maxSurd, -maxSurd)), "just a surd")
	for _, s := range someSurds() {
		same(t, got(impl.AddSurds(s, surd(0, 0))), gives(s), "AddSurds", s, 0)
		for _, u := range someSurds() {
			want := failsAs[impl.Surd]()
			if sum := surd(s.Plain+u.Plain, s.Root+u.Root); modelIsSurd(sum) {
				want = gives(sum)
			}
			same(t, got(impl.AddSurds(s, u)), want, "AddSurds", s, u)
		}
	}
}

func TestTimesSurds(t *testing.T) {
	same(t, got(impl.TimesSurds(surd(2, 3), surd(5, 7))), gives(surd(52, 29)), "TimesSurds")
	same(t, got(impl.TimesSurds(surd(0, 1), surd(0, 1))), gives(surd(2, 0)), "the root of two twice")
	same(t, got(impl.TimesSurds(surd(17, 12), surd(17, -12))), gives(surd(1, 0)), "17 + 12 r times 17 - 12 r")
	same(t, got(impl.TimesSurds(surd(0, 0), surd(1000000, -1000000))), gives(surd(0, 0)), "times 0")
	great := surd(1000000, 1000000)
	same(t, got(impl.TimesSurds(great, great)), gives(surd(3000000000000, 2000000000000)), "at the limit")
	same(t, got(impl.TimesSurds(great, surd(-1000000, 1000000))), gives(surd(1000000000000, 0)), "at the limit")
	for _, n := range []int{-1000001, 1000001, -maxSurd, maxSurd} {
		for _, s := range []impl.Surd{surd(n, 0), surd(0, n)} {
			same(t, got(impl.TimesSurds(s, surd(1, 0))), failsAs[impl.Surd](), "TimesSurds", s, 1)
			same(t, got(impl.TimesSurds(surd(0, 0), s)), failsAs[impl.Surd](), "TimesSurds", 0, s)
		}
	}
}

func TestSignsOfSurds(t *testing.T) {
	wanted := map[impl.Surd]int{
		surd(0, 0): 0, surd(1, 0): 1, surd(0, 1): 1, surd(-1, 0): -1, surd(0, -1): -1,
		surd(2, 3): 1, surd(-2, -3): -1, surd(3, -2): 1, surd(-3, 2): -1, surd(7, -5): -1, surd(-7, 5): 1,
		surd(maxSurd, -rootAtLimit): 1, surd(-maxSurd, rootAtLimit): -1,
		surd(maxSurd, -rootAtLimit-1): -1, surd(-maxSurd, rootAtLimit+1): 1,
		surd(maxSurd, -maxSurd): -1, surd(-maxSurd, maxSurd): 1,
	}
	for s, want := range wanted {
		same(t, got(impl.SignOfSurd(s)), gives(want), "SignOfSurd", s)
	}
	for _, s := range someSurds() {
		same(t, got(impl.SignOfSurd(s)), gives(modelCompare(s, surd(0, 0))), "SignOfSurd", s)
	}
}

func TestCompareSurds(t *testing.T) {
	same(t, got(impl.CompareSurds(surd(3, -2), surd(0, 0))), gives(1), "CompareSurds")
	same(t, got(impl.CompareSurds(surd(1, 0), surd(0, 1))), gives(-1), "1 and the root of two")
	// The differences of these are no surds, but their signs are told.
	great, least := surd(maxSurd, -maxSurd), surd(-maxSurd, maxSurd)
	same(t, got(impl.CompareSurds(great, least)), gives(-1), "CompareSurds", great, least)
	same(t, got(impl.CompareSurds(least, great)), gives(1), "CompareSurds", least, great)
	near := surd(-maxSurd, rootAtLimit+1)
	same(t, got(impl.CompareSurds(surd(maxSurd, -rootAtLimit), near)), gives(1), "nearly the same")
	same(t, got(impl.CompareSurds(surd(maxSurd, -rootAtLimit-1), near)), gives(-1), "nearly the same")
	for _, s := range someSurds() {
		for _, u := range someSurds() {
			same(t, got(impl.CompareSurds(s, u)), gives(modelCompare(s, u)), "CompareSurds", s, u)
		}
	}
}
