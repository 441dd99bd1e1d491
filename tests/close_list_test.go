package tests

import (
	"slices"
	"strings"
	"testing"

	"loop.example/g01217/impl"
)

// listed is a list as one value, so that it is compared at once.
func listed(list []string, ok bool) answer[string] {
	return answer[string]{strings.Join(list, " "), ok}
}

func TestFirstClosed(t *testing.T) {
	wanted := map[int]string{8: "LLLLLLLL", 10: "LLLLSLLLLS", 12: "LLLLLRLLLLLR", 14: "LLLLLRLSLLLLSR"}
	for n := 1; n <= 14; n++ {
		want := failsAs[string]()
		if first, is := wanted[n]; is {
			want = gives(first)
		}
		same(t, got(impl.FirstClosed(n)), want, "FirstClosed", n)
	}
}

func TestFirstClosedLikeTheModel(t *testing.T) {
	for n := 1; n <= 14; n++ {
		tracks := modelClosed()[n]
		want := failsAs[string]()
		if len(tracks) > 0 {
			want = gives(slices.Min(tracks))
		}
		same(t, got(impl.FirstClosed(n)), want, "FirstClosed", n)
	}
	for _, n := range noClosedLengths {
		same(t, got(impl.FirstClosed(n)), failsAs[string](), "FirstClosed", n)
	}
}

func TestClosedTracks(t *testing.T) {
	same(t, listed(impl.ClosedTracks(8)), gives("LLLLLLLL RRRRRRRR"), "ClosedTracks of 8")
	want := "LLLLSLLLLS LLLSLLLLSL LLSLLLLSLL LSLLLLSLLL RRRRSRRRRS RRRSRRRRSR RRSRRRRSRR RSRRRRSRRR SLLLLSLLLL SRRRRSRRRR"
	same(t, listed(impl.ClosedTracks(10)), gives(want), "ClosedTracks of 10")
	for n := 1; n <= 10; n++ {
		same(t, listed(impl.ClosedTracks(n)), listed(modelClosed()[n], true), "ClosedTracks", n)
	}
	// There are closed tracks of 12 and of 14 pieces, but they are not listed.
	for _, n := range append([]int{11, 12, 13, 14}, noClosedLengths...) {
		same(t, listed(impl.ClosedTracks(n)), failsAs[string](), "ClosedTracks", n)
	}
	same(t, impl.MaxListed, 300, "MaxListed")
}

func TestListsAndCounts(t *testing.T) {
	for n := 1; n <= 10; n++ {
		tracks := sure(impl.ClosedTracks(n))
		same(t, got(impl.CountClosed(n)), gives(len(tracks)), "CountClosed", n)
		var counts [3]int
		for _, track := range tracks {
			counts[sure(impl.WindingOf(track))+1]++
		}
		same(t, windings(n), gives(counts), "CountByWinding", n)
		want := failsAs[string]()
		if len(tracks) > 0 {
			want = gives(tracks[0])
		}
		same(t, got(impl.FirstClosed(n)), want, "FirstClosed", n)
		same(t, slices.IsSorted(tracks), true, "ClosedTracks in order", n)
	}
}

// TestListsAreClosedUnderSpins checks that spun, mirrored and backward tracks are in the list, too.
func TestListsAreClosedUnderSpins(t *testing.T) {
	for n := 1; n <= 10; n++ {
		tracks := sure(impl.ClosedTracks(n))
		for _, track := range tracks {
			others := []string{sure(impl.MirrorTrack(track)), sure(impl.BackTrack(track))}
			for k := range track {
				others = append(others, sure(impl.SpinTrack(track, k)))
			}
			for _, other := range others {
				same(t, slices.Contains(tracks, other), true, "listed", other, "with", track)
			}
		}
	}
}

func TestHalfTurns(t *testing.T) {
	same(t, listed(impl.HalfTurns(4)), gives("LLLL RRRR"), "HalfTurns of 4")
	want := "LLLLS LLLSL LLSLL LSLLL RRRRS RRRSR RRSRR RSRRR SLLLL SRRRR"
	same(t, listed(impl.HalfTurns(5)), gives(want), "HalfTurns of 5")
	for n, count := range []int{0, 0, 0, 0, 2, 10, 42} {
		same(t, len(sure(impl.HalfTurns(n))), count, "the number of HalfTurns", n)
	}
	for _, n := range []int{-1 << 63, -1 << 32, -4, -1, 7, 8, 1<<32 + 4, 1<<63 - 1} {
		same(t, listed(impl.HalfTurns(n)), failsAs[string](), "HalfTurns", n)
	}
}

func TestHalfTurnsLikeTheModel(t *testing.T) {
	var lists [7][]string
	for _, text := range tracksUpTo(6) {
		if modelIsClosed(text + text) {
			lists[len(text)] = append(lists[len(text)], text)
		}
	}
	for n, want := range lists {
		same(t, listed(impl.HalfTurns(n)), listed(want, true), "HalfTurns", n)
		for _, text := range sure(impl.HalfTurns(n)) {
			twice := sure(impl.RepeatTrack(text, 2))
			same(t, got(impl.IsClosed(twice)), gives(true), "IsClosed", twice)
			same(t, (sure(impl.TurnOfTrack(text))+16)%8, 4, "the turn of", text)
		}
	}
}
