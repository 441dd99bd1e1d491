package tests

import (
	"math"
	"strings"
	"testing"

	"loop.example/g01217/impl"
)

func TestMirrorTrack(t *testing.T) {
	wanted := map[string]string{"": "", "S": "S", "L": "R", "R": "L", "SLLRS": "SRRLS", strings.Repeat("L", 40): strings.Repeat("R", 40)}
	for track, want := range wanted {
		same(t, got(impl.MirrorTrack(track)), gives(want), "MirrorTrack", track)
	}
}

func TestMirroredJoints(t *testing.T) {
	for _, track := range append(tracksUpTo(6), longTracks()...) {
		mirrored := sure(impl.MirrorTrack(track))
		same(t, got(impl.MirrorTrack(mirrored)), gives(track), "mirrored twice", track)
		var want []lead
		joints, headings := sure(impl.JointsOf(track)), sure(impl.HeadingsOf(track))
		for i, p := range joints {
			want = append(want, lead{sure(impl.MirrorPoint(p)), (8 - headings[i]) % 8})
		}
		same(t, laidOf(mirrored), gives(toldLeads(want)), "joints of the mirrored", track)
	}
}

func TestBackTrack(t *testing.T) {
	wanted := map[string]string{
		"": "", "S": "S", "L": "R", "R": "L", "SL": "RS", "SLLR": "LRRS", "LLLLLLLL": "RRRRRRRR", "SSSLR": "LRSSS",
		strings.Repeat("S", 39) + "R": "L" + strings.Repeat("S", 39),
	}
	for track, want := range wanted {
		same(t, got(impl.BackTrack(track)), gives(want), "BackTrack", track)
	}
}

// TestBackwardJoints lays the backward track from the end of a track, the other way round: its joints are those of the track, from the last one to the first.
func TestBackwardJoints(t *testing.T) {
	for _, track := range append(tracksUpTo(5), longTracks()...) {
		back := sure(impl.BackTrack(track))
		same(t, got(impl.BackTrack(back)), gives(track), "backward twice", track)
		joints, headings := sure(impl.JointsOf(track)), sure(impl.HeadingsOf(track))
		last := len(track)
		for i := range joints {
			part := sure(impl.CutTrack(back, 0, i))
			want := lead{joints[last-i], (headings[last-i] + 4) % 8}
			same(t, endFrom(part, joints[last], (headings[last]+4)%8), gives(want), "joint of the backward", i, track)
		}
	}
}

func TestJoinTracks(t *testing.T) {
	same(t, got(impl.JoinTracks("SL", "RRS")), gives("SLRRS"), "JoinTracks")
	same(t, got(impl.JoinTracks("", "RRS")), gives("RRS"), "JoinTracks behind no pieces")
	same(t, got(impl.JoinTracks("SL", "")), gives("SL"), "JoinTracks with no pieces")
	same(t, got(impl.JoinTracks("", "")), gives(""), "JoinTracks of no pieces")
	for length := range 41 {
		a, b := strings.Repeat("L", length), strings.Repeat("S", 40-length)
		same(t, got(impl.JoinTracks(a, b)), gives(a+b), "just fits", length)
		same(t, got(impl.JoinTracks(a+"R", b)), failsAs[string](), "the first one is longer", length)
		same(t, got(impl.JoinTracks(a, b+"R")), failsAs[string](), "the second one is longer", length)
	}
	long := strings.Repeat("S", 40)
	same(t, got(impl.JoinTracks(long, long)), failsAs[string](), "both as long as can be")
}

func TestEndsOfJoinedTracks(t *testing.T) {
	for _, a := range append(tracksUpTo(3), "SLLLSLLLRS", strings.Repeat("L", 36)) {
		for _, b := range append(tracksUpTo(3), "RSRSRR") {
			joined, ok := impl.JoinTracks(a, b)
			same(t, ok, len(a)+len(b) <= 40, "JoinTracks succeeds", a, b)
			if end := endOf(a).value; ok {
				same(t, endOf(joined), endFrom(b, end.to, end.heading), "the end of the joined", a, b)
			}
		}
	}
}

func TestRepeatTrack(t *testing.T) {
	same(t, got(impl.RepeatTrack("SL", 3)), gives("SLSLSL"), "RepeatTrack")
	same(t, got(impl.RepeatTrack("SLR", 1)), gives("SLR"), "RepeatTrack once")
	same(t, got(impl.RepeatTrack(strings.Repeat("S", 40), 1)), gives(strings.Repeat("S", 40)), "RepeatTrack once, just fits")
	for _, track := range someTracks() {
		same(t, got(impl.RepeatTrack(track, 0)), gives(""), "RepeatTrack for 0", track)
		for k := range 50 {
			want := failsAs[string]()
			if k*len(track) <= 40 {
				want = gives(strings.Repeat(track, k))
			}
			same(t, got(impl.RepeatTrack(track, k)), want, "RepeatTrack", track, k)
		}
		for _, k := range []int{math.MinInt, math.MinInt + 1, -1 << 32, -40, -1} {
			same(t, got(impl.RepeatTrack(track, k)), failsAs[string](), "RepeatTrack", track, k)
		}
	}
}

func TestRepeatTrackManyTimes(t *testing.T) {
	for _, k := range []int{40, 41, 1000, 1 << 32, 1 << 60, 1 << 61, 1 << 62, math.MaxInt/2 + 1, math.MaxInt - 1, math.MaxInt} {
		same(t, got(impl.RepeatTrack("", k)), gives(""), "RepeatTrack of no pieces", k)
		// 8 times 2^61 is 0 modulo 2^64.
		for _, track := range []string{"SS", "SLRS", "LLLLLLLL", strings.Repeat("R", 40)} {
			same(t, got(impl.RepeatTrack(track, k)), failsAs[string](), "RepeatTrack", track, k)
		}
	}
	same(t, got(impl.RepeatTrack("S", 40)), gives(strings.Repeat("S", 40)), "RepeatTrack of one piece, just fits")
	same(t, got(impl.RepeatTrack("S", 41)), failsAs[string](), "RepeatTrack of one piece, one too many")
}

func TestCutTrack(t *testing.T) {
	same(t, got(impl.CutTrack("SSLR", 1, 3)), gives("SL"), "CutTrack")
	same(t, got(impl.CutTrack("SSLR", 0, 4)), gives("SSLR"), "CutTrack, all of it")
	same(t, got(impl.CutTrack("SSLR", 0, 0)), gives(""), "CutTrack at the beginning")
	same(t, got(impl.CutTrack("SSLR", 4, 4)), gives(""), "CutTrack at the end")
	same(t, got(impl.CutTrack("SSLR", 4, 5)), failsAs[string](), "CutTrack beyond the end")
	same(t, got(impl.CutTrack("SSLR", 5, 5)), failsAs[string](), "CutTrack behind the end")
	same(t, got(impl.CutTrack("SSLR", -1, 2)), failsAs[string](), "CutTrack before the beginning")
	same(t, got(impl.CutTrack("SSLR", 3, 2)), failsAs[string](), "CutTrack backwards")
	bounds := append([]int{math.MinInt, -40, -2, -1, 39, 40, 41, 42, 1 << 32, math.MaxInt}, 0, 1, 2, 3, 4, 5, 6, 7)
	for _, track := range append(tracksUpTo(3), "SLRSLR", strings.Repeat("SLRR", 10)) {
		for _, from := range bounds {
			for _, to := range bounds {
				want := failsAs[string]()
				if 0 <= from && from <= to && to <= len(track) {
					want = gives(track[from:to])
				}
				same(t, got(impl.CutTrack(track, from, to)), want, "CutTrack", track, from, to)
			}
		}
	}
}

func TestCutTracksAreJoinedAgain(t *testing.T) {
	for _, track := range longTracks() {
		for i := range len(track) + 1 {
			before, behind := sure(impl.CutTrack(track, 0, i)), sure(impl.CutTrack(track, i, len(track)))
			same(t, got(impl.JoinTracks(before, behind)), gives(track), "cut and joined", track, i)
		}
	}
}
