package tests

import (
	"math"
	"strings"
	"testing"

	"loop.example/g01217/impl"
)

func TestIsClosedExamples(t *testing.T) {
	wanted := map[string]bool{
		"LLLLLLLL": true, "SLLLLSLLLL": true, "RRRRRRRR": true, "RRRRRRRRLLLLLLLL": true, strings.Repeat("L", 40): true,
		"LLLLLLSSRRRRRRSS": true,
		"LRLR":             false, "": false, "S": false, "LLLLLLL": false, "LLLLLLLLL": false, "SLLLLLLLL": false, strings.Repeat("S", 40): false,
		// These come back to the point 0 with another heading, and to the heading 0 at another point.
		"SLLLLLLS": false, "LLLLSLLLL": false, "SSLLLLSLLLL": false,
	}
	for track, want := range wanted {
		same(t, got(impl.IsClosed(track)), gives(want), "IsClosed", track)
	}
}

func TestIsClosedLikeTheModel(t *testing.T) {
	closed := 0
	for _, track := range append(tracksUpTo(10), longTracks()...) {
		is := modelIsClosed(track)
		same(t, got(impl.IsClosed(track)), gives(is), "IsClosed", track)
		if is && len(track) <= 10 {
			closed++
		}
	}
	same(t, closed, 12, "how many tracks of at most 10 pieces are closed")
}

func TestClosedOnesAreClosed(t *testing.T) {
	for _, track := range closedOnes() {
		same(t, modelIsClosed(track), true, "closed in the model", track)
		same(t, got(impl.IsClosed(track)), gives(true), "IsClosed", track)
		same(t, got(impl.IsClosed(track[1:])), gives(false), "IsClosed without the first piece", track)
		same(t, endOf(track), gives(lead{}), "EndOf", track)
	}
}

func TestWindingOf(t *testing.T) {
	wanted := map[string]int{
		"LLLLLLLL": 1, "RRRRRRRR": -1, "SLLLLSLLLL": 1, "RRRRSRRRRS": -1, "LLLLLLLLRRRRRRRR": 0, "LLLLLLSSRRRRRRSS": 0,
		strings.Repeat("L", 40): 5, strings.Repeat("R", 40): -5, strings.Repeat("L", 16): 2, strings.Repeat("SRRRRSRRRR", 4): -4,
	}
	for track, want := range wanted {
		same(t, got(impl.WindingOf(track)), gives(want), "WindingOf", track)
	}
	for _, track := range closedOnes() {
		same(t, got(impl.WindingOf(track)), gives(modelWinding(track)), "WindingOf", track)
		same(t, 8*modelWinding(track), sure(impl.TurnOfTrack(track)), "eight times the winding", track)
	}
}

func TestIsPlain(t *testing.T) {
	wanted := map[string]bool{
		"LLLLLLLL": true, "SLLLLSLLLL": true, "RRRRRRRR": true, strings.Repeat("SSSL", 8): true,
		// The first joint comes again between, or other joints do.
		"LLLLLLLLRRRRRRRR": false, strings.Repeat("L", 16): false, "SLLLLLLLLLLLLSLLLL": false, "SLLLLRRRRRRRRSLLLL": false,
	}
	for track, want := range wanted {
		same(t, got(impl.IsPlain(track)), gives(want), "IsPlain", track)
	}
	plain, others := 0, 0
	for _, track := range closedOnes() {
		is := len(modelMeetings(track)) == 1
		same(t, got(impl.IsPlain(track)), gives(is), "IsPlain", track)
		if is {
			plain++
		} else {
			others++
		}
	}
	if plain < 100 || others < 100 {
		t.Error("there are too few tracks of one kind:", plain, "plain and", others, "others")
	}
}

func TestSpinTrack(t *testing.T) {
	same(t, got(impl.SpinTrack("SLLLLSLLLL", 0)), gives("SLLLLSLLLL"), "SpinTrack by 0")
	same(t, got(impl.SpinTrack("SLLLLSLLLL", 1)), gives("LLLLSLLLLS"), "SpinTrack by 1")
	same(t, got(impl.SpinTrack("SLLLLSLLLL", 3)), gives("LLSLLLLSLL"), "SpinTrack by 3")
	same(t, got(impl.SpinTrack("SLLLLSLLLL", 9)), gives("LSLLLLSLLL"), "SpinTrack by 9")
	same(t, got(impl.SpinTrack("SLLLLSLLLL", 10)), failsAs[string](), "SpinTrack by 10")
	same(t, got(impl.SpinTrack("SLLLLSLLLL", -1)), failsAs[string](), "SpinTrack by -1")
	for _, track := range closedOnes() {
		for k := range track {
			same(t, got(impl.SpinTrack(track, k)), gives(track[k:]+track[:k]), "SpinTrack", track, k)
		}
		for _, k := range []int{math.MinInt, -len(track), -1, len(track), len(track) + 1, 2 * len(track), 1 << 32, math.MaxInt} {
			same(t, got(impl.SpinTrack(track, k)), failsAs[string](), "SpinTrack", track, k)
		}
	}
}

// TestClosedFromEachBeginning checks spun tracks, and what stays as it is.
func TestClosedFromEachBeginning(t *testing.T) {
	for _, track := range closedOnes() {
		winding, plain := got(impl.WindingOf(track)), got(impl.IsPlain(track))
		for k := range track {
			spun := sure(impl.SpinTrack(track, k))
			same(t, got(impl.IsClosed(spun)), gives(true), "IsClosed spun", track, k)
			same(t, got(impl.WindingOf(spun)), winding, "WindingOf spun", track, k)
			same(t, got(impl.IsPlain(spun)), plain, "IsPlain spun", track, k)
			same(t, got(impl.SpinTrack(spun, (len(track)-k)%len(track))), gives(track), "spun back", track, k)
		}
	}
}

// TestJointsOfSpunTracks lays spun tracks from the joint where they begin: they have the joints of the track.
func TestJointsOfSpunTracks(t *testing.T) {
	for _, track := range longClosed()[:30] {
		joints, headings := sure(impl.JointsOf(track)), sure(impl.HeadingsOf(track))
		for k := range track {
			spun := sure(impl.SpinTrack(track, k))
			for i := range track {
				part := sure(impl.CutTrack(spun, 0, i))
				to := (k + i) % len(track)
				want := lead{joints[to], headings[to]}
				same(t, endFrom(part, joints[k], headings[k]), gives(want), "joint of the spun", track, k, i)
			}
		}
	}
}

func TestMirroredAndBackwardClosedTracks(t *testing.T) {
	for _, track := range closedOnes() {
		winding, plain := sure(impl.WindingOf(track)), got(impl.IsPlain(track))
		for _, other := range []string{sure(impl.MirrorTrack(track)), sure(impl.BackTrack(track))} {
			same(t, got(impl.IsClosed(other)), gives(true), "IsClosed", other, "of", track)
			same(t, got(impl.WindingOf(other)), gives(-winding), "WindingOf", other, "of", track)
			same(t, got(impl.IsPlain(other)), plain, "IsPlain", other, "of", track)
		}
	}
}

func TestWindingsAreAdded(t *testing.T) {
	short := shortClosed()
	for i, a := range short {
		b := short[(i*53+7)%len(short)]
		both := sure(impl.JoinTracks(a, b))
		same(t, got(impl.IsClosed(both)), gives(true), "IsClosed", both)
		windings := sure(impl.WindingOf(a)) + sure(impl.WindingOf(b))
		same(t, got(impl.WindingOf(both)), gives(windings), "WindingOf", both)
		same(t, got(impl.IsPlain(both)), gives(false), "IsPlain", both)
	}
}
