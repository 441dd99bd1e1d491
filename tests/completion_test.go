package tests

import (
	"math"
	"strings"
	"testing"

	"loop.example/g01217/impl"
)

func TestCompletionExamples(t *testing.T) {
	same(t, got(impl.LeastToClose("LLLLS")), gives(5), "LeastToClose")
	same(t, got(impl.ClosingPieces("LLLLS")), gives("LLLLS"), "ClosingPieces")
	same(t, got(impl.CountCompletions("LLLLS", 5)), gives(1), "CountCompletions of the fewest")
	same(t, got(impl.FirstCompletion("LLLLS", 5)), gives("LLLLS"), "FirstCompletion of the fewest")
	same(t, got(impl.CountCompletions("LLLLS", 4)), gives(0), "CountCompletions of too few")
	same(t, got(impl.FirstCompletion("LLLLS", 4)), failsAs[string](), "FirstCompletion of too few")
	same(t, got(impl.LeastToClose("LLLLLLL")), gives(1), "LeastToClose of seven eighths")
	same(t, got(impl.ClosingPieces("LLLLLLL")), gives("L"), "ClosingPieces of seven eighths")
	same(t, got(impl.ClosingPieces("L")), gives("LLLLLLL"), "ClosingPieces of an eighth")
	same(t, got(impl.LeastToClose("S")), failsAs[int](), "LeastToClose of a straight")
	same(t, got(impl.ClosingPieces("S")), failsAs[string](), "ClosingPieces of a straight")
	same(t, impl.MaxAdded, 7, "MaxAdded")
}

// TestCompletionsOfNoPieces checks that a track without pieces is not closed, and so not completed by none.
func TestCompletionsOfNoPieces(t *testing.T) {
	for n := range 8 {
		same(t, got(impl.CountCompletions("", n)), gives(0), "CountCompletions of no track", n)
		same(t, got(impl.FirstCompletion("", n)), failsAs[string](), "FirstCompletion of no track", n)
	}
	same(t, got(impl.LeastToClose("")), failsAs[int](), "LeastToClose of no pieces")
	same(t, got(impl.ClosingPieces("")), failsAs[string](), "ClosingPieces of no pieces")
	for _, track := range closedOnes() {
		same(t, got(impl.CountCompletions(track, 0)), gives(1), "CountCompletions of a closed track", track)
		same(t, got(impl.FirstCompletion(track, 0)), gives(""), "FirstCompletion of a closed track", track)
		same(t, got(impl.LeastToClose(track)), gives(0), "LeastToClose of a closed track", track)
		same(t, got(impl.ClosingPieces(track)), gives(""), "ClosingPieces of a closed track", track)
	}
}

// openTracks are tracks that are completed, in parts of closed ones, and others.
func openTracks() []string {
	list := append(tracksUpTo(4), longTracks()...)
	for i, track := range closedOnes() {
		list = append(list, track[:len(track)-i%9%len(track)])
		if i%40 == 0 {
			for k := range track {
				list = append(list, track[:k])
			}
		}
	}
	return list
}

// checkCompletions compares all calls for a track with the model.
func checkCompletions(t *testing.T, track string) {
	t.Helper()
	least, first := failsAs[int](), failsAs[string]()
	for n, texts := range modelCompletions(track) {
		count, text := gives(len(texts)), failsAs[string]()
		if len(track)+n > 40 {
			count = failsAs[int]()
		} else if len(texts) > 0 {
			text = gives(texts[0])
			if !least.ok {
				least, first = gives(n), text
			}
		}
		same(t, got(impl.CountCompletions(track, n)), count, "CountCompletions", track, n)
		same(t, got(impl.FirstCompletion(track, n)), text, "FirstCompletion", track, n)
	}
	same(t, got(impl.LeastToClose(track)), least, "LeastToClose", track)
	same(t, got(impl.ClosingPieces(track)), first, "ClosingPieces", track)
}

func TestCompletionsLikeTheModel(t *testing.T) {
	for _, track := range openTracks() {
		checkCompletions(t, track)
	}
}

// TestCompletedTracksAreClosed checks completions against the fewest pieces: no fewer ones complete the track, and these do.
func TestCompletedTracksAreClosed(t *testing.T) {
	completed := 0
	for _, track := range openTracks() {
		least, ok := impl.LeastToClose(track)
		if !ok {
			continue
		}
		completed++
		text := sure(impl.ClosingPieces(track))
		same(t, len(text), least, "the number of ClosingPieces", track)
		same(t, got(impl.FirstCompletion(track, least)), gives(text), "FirstCompletion of the fewest", track)
		same(t, got(impl.IsClosed(sure(impl.JoinTracks(track, text)))), gives(true), "completed", track, text)
		for n := range least {
			same(t, got(impl.CountCompletions(track, n)), gives(0), "CountCompletions of fewer", track, n)
		}
	}
	if completed < 300 {
		t.Error("only", completed, "tracks are completed")
	}
}

// TestCutTracksAreCompleted takes pieces away: as many at most complete it again.
func TestCutTracksAreCompleted(t *testing.T) {
	for _, track := range shortClosed() {
		for n := range 8 {
			rest, gone := track[:len(track)-n], track[len(track)-n:]
			least, ok := impl.LeastToClose(rest)
			same(t, ok && least <= n, true, "LeastToClose", rest, "is at most", n)
			first, ok := impl.FirstCompletion(rest, n)
			same(t, ok && first <= gone, true, "FirstCompletion", rest, "is not behind", gone)
			count, ok := impl.CountCompletions(rest, n)
			same(t, ok && count >= 1, true, "CountCompletions", rest, n)
		}
	}
}

func TestMostPieces(t *testing.T) {
	for length := 30; length <= 40; length++ {
		track := strings.Repeat("L", length)
		for n := range 8 {
			_, ok := impl.CountCompletions(track, n)
			same(t, ok, length+n <= 40, "CountCompletions succeeds", length, n)
		}
		checkCompletions(t, track)
	}
	same(t, got(impl.FirstCompletion(strings.Repeat("L", 33), 7)), gives("LLLLLLL"), "just 40 pieces")
	same(t, got(impl.CountCompletions(strings.Repeat("L", 34), 7)), failsAs[int](), "41 pieces")
	same(t, got(impl.CountCompletions(strings.Repeat("L", 40), 1)), failsAs[int](), "a piece more than 40")
	same(t, got(impl.LeastToClose(strings.Repeat("L", 40))), gives(0), "40 pieces that are closed")
	same(t, got(impl.LeastToClose(strings.Repeat("S", 40))), failsAs[int](), "40 pieces that are not closed")
	rest := "LLLLS"
	same(t, got(impl.ClosingPieces(strings.Repeat("SLLLLSLLLL", 3)+rest)), gives(rest), "completed with just 40 pieces")
	same(t, got(impl.ClosingPieces(strings.Repeat("LLLLLLLL", 4)+rest)), failsAs[string](), "completed with 42 pieces")
	same(t, got(impl.LeastToClose(strings.Repeat("LLLLLLLL", 4)+rest)), failsAs[int](), "completed with 42 pieces")
}

func TestNoNumbersOfAddedPieces(t *testing.T) {
	for _, track := range []string{"", "S", "L", "LLLLS", "LLLLLLLL", strings.Repeat("L", 33), strings.Repeat("L", 40)} {
		for _, n := range []int{math.MinInt, math.MinInt + 1, -1 << 32, -8, -1, 8, 9, 1 << 32, math.MaxInt - 1, math.MaxInt} {
			same(t, got(impl.CountCompletions(track, n)), failsAs[int](), "CountCompletions", track, n)
			same(t, got(impl.FirstCompletion(track, n)), failsAs[string](), "FirstCompletion", track, n)
		}
	}
}
