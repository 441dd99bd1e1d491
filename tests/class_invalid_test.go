package tests

import (
	"strings"
	"testing"

	"loop.example/g01217/impl"
)

var textOfRingCalls = map[string]func(string) (string, bool){
	"LeastRing": impl.LeastRing, "ClassRing": impl.ClassRing,
	"GrowRing 0": func(s string) (string, bool) { return impl.GrowRing(s, 0) },
	"GrowRing 7": func(s string) (string, bool) { return impl.GrowRing(s, 7) },
}

var numberOfRingCalls = map[string]func(string) (int, bool){
	"PeriodOfRing": impl.PeriodOfRing, "CountVariants": impl.CountVariants, "RingCrossings": impl.RingCrossings,
}

var boolOfRingCalls = map[string]func(string) (bool, bool){
	"IsOwnMirror": impl.IsOwnMirror, "IsOwnBack": impl.IsOwnBack,
	"AreOneClass with itself":    func(s string) (bool, bool) { return impl.AreOneClass(s, s) },
	"AreOneClass with a ring":    func(s string) (bool, bool) { return impl.AreOneClass(s, "LLLLLLLL") },
	"AreOneClass behind a ring":  func(s string) (bool, bool) { return impl.AreOneClass("LLLLLLLL", s) },
	"AreOneClass with no pieces": func(s string) (bool, bool) { return impl.AreOneClass(s, "") },
}

func TestCallsOfNoRing(t *testing.T) {
	for _, text := range noRings() {
		for name, call := range textOfRingCalls {
			same(t, got(call(text)), failsAs[string](), name, text)
		}
		for name, call := range numberOfRingCalls {
			same(t, got(call(text)), failsAs[int](), name, text)
		}
		for name, call := range boolOfRingCalls {
			same(t, got(call(text)), failsAs[bool](), name, text)
		}
	}
}

func TestNoHeadingsToGrowFor(t *testing.T) {
	for _, ring := range []string{"LLLLLLLL", "SRRRRSRRRR", "LLLLLLLLRRRRRRRR", strings.Repeat("L", 40)} {
		for _, heading := range noHeadings {
			same(t, got(impl.GrowRing(ring, heading)), failsAs[string](), "GrowRing", ring, heading)
		}
	}
}

// TestAnyRingTextsAreAccepted calls what takes a ring with texts of any bytes and with any numbers.
func TestAnyRingTextsAreAccepted(t *testing.T) {
	next := diceFrom(11)
	rings := someRings()
	for range 3000 {
		text := []byte(rings[next(len(rings))])
		for range next(3) {
			text[next(len(text))] = byte(next(256))
		}
		if next(5) == 0 {
			text = append(text, "SLRX\x00"[next(5)])
		}
		s, n := string(text), someInts[next(len(someInts))]
		is := len(s) <= 40 && strings.Trim(s, "SLR") == "" && modelIsClosed(s)
		same(t, impl.IsRing(s), is, "IsRing", s)
		for name, call := range numberOfRingCalls {
			same(t, got(call(s)).ok, is, name, "succeeds", s)
		}
		for _, name := range []string{"LeastRing", "ClassRing"} {
			same(t, got(textOfRingCalls[name](s)).ok, is, name, "succeeds", s)
		}
		for _, name := range []string{"IsOwnMirror", "IsOwnBack", "AreOneClass with itself", "AreOneClass behind a ring"} {
			same(t, got(boolOfRingCalls[name](s)).ok, is, name, "succeeds", s)
		}
		want := orNone(is && 0 <= n && n <= 7, func() answer[string] { return modelGrow(s, n) })
		same(t, got(impl.GrowRing(s, n)), want, "GrowRing", s, n)
	}
}

func TestAnyNumbersOfPiecesOfRingsAreAccepted(t *testing.T) {
	for _, n := range someInts {
		is := 1 <= n && n <= 12
		_, ok := impl.AllClasses(n)
		same(t, ok, is, "AllClasses succeeds", n)
		same(t, got(impl.CountClasses(n)).ok, is, "CountClasses succeeds", n)
		same(t, sizesOfClasses(n).ok, is, "SizesOfClasses succeeds", n)
		same(t, got(impl.CountOwnMirror(n)).ok, is, "CountOwnMirror succeeds", n)
		same(t, got(impl.CountOwnBack(n)).ok, is, "CountOwnBack succeeds", n)
	}
}

func TestListsOfClassesAreNew(t *testing.T) {
	rings, sizes := sure(impl.AllClasses(12)), sure(impl.SizesOfClasses(12))
	before := listed(rings, true)
	for i := range rings {
		rings[i], sizes[i] = "X", -1
	}
	same(t, listed(impl.AllClasses(12)), before, "AllClasses again")
	same(t, sizesOfClasses(12), gives("12 12 12 6"), "SizesOfClasses again")
}

func TestTextsOfRingsAreNew(t *testing.T) {
	for _, ring := range someRings() {
		for name, call := range textOfRingCalls {
			if result, _ := call(ring); shareMemory(result, ring) {
				t.Error(name, "shares memory with", ring)
			}
		}
	}
}

// TestRingCallsAreRepeated checks that a call leaves nothing behind for the next one.
func TestRingCallsAreRepeated(t *testing.T) {
	for range 10 {
		same(t, listed(impl.AllClasses(10)), gives("LLLLSLLLLS"), "AllClasses")
		same(t, sizesOfClasses(12), gives("12 12 12 6"), "SizesOfClasses")
		same(t, got(impl.ClassRing("RSLLLLSLRLLLLL")), gives("LLLLLRLSLLLLSR"), "ClassRing")
		same(t, got(impl.CountVariants("SLLLLSLLLL")), gives(10), "CountVariants")
		same(t, got(impl.GrowRing("LLLLLLLL", 0)), gives("SLLLLSLLLL"), "GrowRing")
	}
}
