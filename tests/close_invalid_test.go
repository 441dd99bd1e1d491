package tests

import (
	"strings"
	"testing"

	"loop.example/g01217/impl"
)

func TestNoTracksAreClosed(t *testing.T) {
	texts := append(noTracks(), "LLLLLLLl", "LLLLLLLL ", "LLLL LLLL", "L8", "-", strings.Repeat("L", 48), strings.Repeat("SLLLLSLLLL", 5))
	for _, text := range texts {
		same(t, got(impl.IsClosed(text)), failsAs[bool](), "IsClosed", text)
		same(t, got(impl.LeastToClose(text)), failsAs[int](), "LeastToClose", text)
		same(t, got(impl.ClosingPieces(text)), failsAs[string](), "ClosingPieces", text)
		for n := range 8 {
			same(t, got(impl.CountCompletions(text, n)), failsAs[int](), "CountCompletions", text, n)
			same(t, got(impl.FirstCompletion(text, n)), failsAs[string](), "FirstCompletion", text, n)
		}
		checkNotClosed(t, text)
	}
}

// TestTracksThatAreNotClosed checks what requires closed tracks; that without pieces is none of them.
func TestTracksThatAreNotClosed(t *testing.T) {
	tracks := append(tracksUpTo(7), "LLLLLLLLL", "SLLLLLLLL", "SLLLLLLS", "LLLLSLLLL", "SSLLLLSLLLL", strings.Repeat("S", 40))
	for _, track := range tracks {
		same(t, got(impl.IsClosed(track)), gives(false), "IsClosed", track)
		checkNotClosed(t, track)
	}
}

func checkNotClosed(t *testing.T, text string) {
	t.Helper()
	same(t, got(impl.WindingOf(text)), failsAs[int](), "WindingOf", text)
	same(t, got(impl.IsPlain(text)), failsAs[bool](), "IsPlain", text)
	for _, k := range []int{-1, 0, 1, len(text) - 1, len(text)} {
		same(t, got(impl.SpinTrack(text, k)), failsAs[string](), "SpinTrack", text, k)
	}
}

// TestAnyClosingTextsAreAccepted calls what takes a track with texts of any bytes and with any numbers.
func TestAnyClosingTextsAreAccepted(t *testing.T) {
	next := diceFrom(5)
	closed := closedOnes()
	for range 5000 {
		text := []byte(closed[next(len(closed))])
		for range next(3) {
			text[next(len(text))] = byte(next(256))
		}
		if next(5) == 0 {
			text = append(text, "SLRX"[next(4)])
		}
		s, n := string(text), someInts[next(len(someInts))]
		is := len(s) <= 40 && strings.Trim(s, "SLR") == ""
		isClosed := is && modelIsClosed(s)
		same(t, got(impl.IsClosed(s)), answer[bool]{isClosed, is}, "IsClosed", s)
		_, ok := impl.WindingOf(s)
		same(t, ok, isClosed, "WindingOf succeeds", s)
		_, ok = impl.IsPlain(s)
		same(t, ok, isClosed, "IsPlain succeeds", s)
		_, ok = impl.SpinTrack(s, n)
		same(t, ok, isClosed && 0 <= n && n < len(s), "SpinTrack succeeds", s, n)
		_, ok = impl.CountCompletions(s, n)
		same(t, ok, is && 0 <= n && n <= 7 && len(s)+n <= 40, "CountCompletions succeeds", s, n)
	}
}

func TestAnyNumbersOfPiecesAreAccepted(t *testing.T) {
	for _, n := range someInts {
		_, ok := impl.CountClosed(n)
		same(t, ok, 1 <= n && n <= 14, "CountClosed succeeds", n)
		same(t, windings(n).ok, 1 <= n && n <= 14, "CountByWinding succeeds", n)
		_, ok = impl.FirstClosed(n)
		same(t, ok, n == 8, "FirstClosed succeeds", n)
		_, ok = impl.ClosedTracks(n)
		same(t, ok, 1 <= n && n <= 10, "ClosedTracks succeeds", n)
		_, ok = impl.HalfTurns(n)
		same(t, ok, 0 <= n && n <= 6, "HalfTurns succeeds", n)
	}
}

func TestClosedListsAreNew(t *testing.T) {
	lists := map[string]func() ([]string, bool){
		"ClosedTracks": func() ([]string, bool) { return impl.ClosedTracks(10) },
		"HalfTurns":    func() ([]string, bool) { return impl.HalfTurns(6) },
	}
	for name, call := range lists {
		list := sure(call())
		before := listed(list, true)
		for i := range list {
			list[i] = "X"
		}
		same(t, listed(call()), before, name, "again")
	}
	counts := sure(impl.CountByWinding(14))
	counts[0], counts[2] = 7, 7
	same(t, windings(14), gives([3]int{119, 0, 119}), "CountByWinding again")
}

func TestSpunTracksAreNew(t *testing.T) {
	for _, track := range closedOnes() {
		for k := range track {
			if shareMemory(sure(impl.SpinTrack(track, k)), track) {
				t.Error("SpinTrack shares memory with", track, k)
			}
		}
	}
}

// TestCallsAreRepeated checks that the order in which a map is ranged over is never seen.
func TestCallsAreRepeated(t *testing.T) {
	for range 20 {
		same(t, windings(12), gives([3]int{21, 0, 21}), "CountByWinding")
		same(t, got(impl.CountClosedWith(4, 8, 0)), gives(15), "CountClosedWith")
		same(t, got(impl.FirstClosed(12)), gives("LLLLLRLLLLLR"), "FirstClosed")
		same(t, listed(impl.HalfTurns(4)), gives("LLLL RRRR"), "HalfTurns")
		same(t, got(impl.ClosingPieces("LLLLS")), gives("LLLLS"), "ClosingPieces")
	}
}
