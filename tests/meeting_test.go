package tests

import (
	"strings"
	"testing"

	"loop.example/g01217/impl"
)

func firstMeeting(track string) answer[[2]int] {
	i, j, ok := impl.FirstMeeting(track)
	return answer[[2]int]{[2]int{i, j}, ok}
}

func TestFirstMeeting(t *testing.T) {
	wanted := map[string][2]int{
		"LLLLLLLL":           {0, 8},
		"RRRRRRRRS":          {0, 8},
		"SLLLLLLLL":          {1, 9},
		"LLSRRRRRRRRS":       {3, 11},
		"SLLLLLLS":           {0, 8},
		"SLLLLSLLLL":         {0, 10},
		"LLLLLLLLLLLLLLLL":   {0, 8},
		"SLLLLLLLLLLLLSLLLL": {1, 9},
	}
	for track, want := range wanted {
		same(t, firstMeeting(track), gives(want), "FirstMeeting", track)
	}
	for _, track := range append(tracksUpTo(7), strings.Repeat("S", 40), strings.Repeat("LR", 20), "LLLLLLL", "SLLLLSLLL") {
		same(t, firstMeeting(track), failsAs[[2]int](), "FirstMeeting", track)
	}
}

func TestCountMeetings(t *testing.T) {
	wanted := map[string]int{
		"": 0, "S": 0, "LLLLLLL": 0, "LLLLLLLL": 1, "LLLLLLLLL": 2, "SLLLLLLS": 1, "LLLLLLLLRRRRRRRR": 3,
		"SLLLLLLLLLLLLSLLLL": 6, strings.Repeat("L", 16): 10, strings.Repeat("L", 40): 85, strings.Repeat("S", 40): 0,
	}
	for track, want := range wanted {
		same(t, got(impl.CountMeetings(track)), gives(want), "CountMeetings", track)
	}
}

// roundTracks are tracks that often come back: of curves to one side, and a few other pieces.
func roundTracks() []string {
	list := longTracks()
	for _, word := range tracksUpTo(4) {
		list = append(list, "LLLL"+word+"LLLL"+word, "RRRRRR"+word+"RRRR", word+"LLLLLLLLL"+word, strings.Repeat(word, 8))
	}
	return list
}

func TestMeetingsLikeTheModel(t *testing.T) {
	for _, track := range append(roundTracks(), wordsUpTo(10, "LS")...) {
		pairs := modelMeetings(track)
		same(t, got(impl.CountMeetings(track)), gives(len(pairs)), "CountMeetings", track)
		want := failsAs[[2]int]()
		if len(pairs) > 0 {
			want = gives(pairs[0])
		}
		same(t, firstMeeting(track), want, "FirstMeeting", track)
	}
}

// TestMeetingsOfMirroredAndBackwardTracks checks that there are as many in a track as in these.
func TestMeetingsOfMirroredAndBackwardTracks(t *testing.T) {
	for _, track := range roundTracks() {
		count := got(impl.CountMeetings(track))
		same(t, got(impl.CountMeetings(sure(impl.MirrorTrack(track)))), count, "mirrored", track)
		same(t, got(impl.CountMeetings(sure(impl.BackTrack(track)))), count, "backward", track)
		same(t, firstMeeting(sure(impl.MirrorTrack(track))), firstMeeting(track), "mirrored", track)
	}
}
