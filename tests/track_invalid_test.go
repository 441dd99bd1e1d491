package tests

import (
	"strings"
	"testing"
	"unsafe"

	"loop.example/g01217/impl"
)

var textOfTrackCalls = map[string]func(string) (string, bool){
	"MirrorTrack": impl.MirrorTrack, "BackTrack": impl.BackTrack, "RunsText": impl.RunsText,
	"JoinTracks with no pieces":   func(s string) (string, bool) { return impl.JoinTracks(s, "") },
	"JoinTracks with a track":     func(s string) (string, bool) { return impl.JoinTracks(s, "SLR") },
	"JoinTracks behind no pieces": func(s string) (string, bool) { return impl.JoinTracks("", s) },
	"JoinTracks behind a track":   func(s string) (string, bool) { return impl.JoinTracks("SLR", s) },
	"JoinTracks with itself":      func(s string) (string, bool) { return impl.JoinTracks(s, s) },
	"RepeatTrack for 0":           func(s string) (string, bool) { return impl.RepeatTrack(s, 0) },
	"RepeatTrack for 1":           func(s string) (string, bool) { return impl.RepeatTrack(s, 1) },
	"CutTrack at the beginning":   func(s string) (string, bool) { return impl.CutTrack(s, 0, 0) },
	"CutTrack, the first piece":   func(s string) (string, bool) { return impl.CutTrack(s, 0, 1) },
	"CutTrack, all of it":         func(s string) (string, bool) { return impl.CutTrack(s, 0, len(s)) },
}

var numberOfTrackCalls = map[string]func(string) (int, bool){
	"TurnOfTrack": impl.TurnOfTrack, "CountMeetings": impl.CountMeetings,
	"CountPiece S": func(s string) (int, bool) { return impl.CountPiece(s, "S") },
	"CountPiece L": func(s string) (int, bool) { return impl.CountPiece(s, "L") },
	"CountPiece R": func(s string) (int, bool) { return impl.CountPiece(s, "R") },
	"CountPiece X": func(s string) (int, bool) { return impl.CountPiece(s, "X") },
}

func TestCallsOfNoTrack(t *testing.T) {
	for _, text := range noTracks() {
		for name, call := range textOfTrackCalls {
			same(t, got(call(text)), failsAs[string](), name, text)
		}
		for name, call := range numberOfTrackCalls {
			same(t, got(call(text)), failsAs[int](), name, text)
		}
		same(t, endOf(text), failsAs[lead](), "EndOf", text)
		same(t, firstMeeting(text), failsAs[[2]int](), "FirstMeeting", text)
		same(t, firstMeeting("LLLLLLLL"+text), failsAs[[2]int](), "FirstMeeting of a closed one and", text)
		same(t, farthestOf(text), failsAs[farthest](), "FarthestJoint", text)
		for _, other := range []string{text, "", "S", "LLLLLLLL"} {
			same(t, got(impl.AreSameEnds(text, other)), failsAs[bool](), "AreSameEnds", text, other)
			same(t, got(impl.AreSameEnds(other, text)), failsAs[bool](), "AreSameEnds", other, text)
		}
	}
}

func TestListsOfNoTrack(t *testing.T) {
	for _, text := range noTracks() {
		if joints, ok := impl.JointsOf(text); len(joints) != 0 || ok {
			t.Error("JointsOf", text, "is", joints, ok)
		}
		if headings, ok := impl.HeadingsOf(text); len(headings) != 0 || ok {
			t.Error("HeadingsOf", text, "is", headings, ok)
		}
		if counts, ok := impl.HeadingCounts(text); len(counts) != 0 || ok {
			t.Error("HeadingCounts", text, "is", counts, ok)
		}
	}
}

// TestAnyTextsAreAccepted calls everything with texts of any bytes and with any numbers.
func TestAnyTextsAreAccepted(t *testing.T) {
	next := diceFrom(3)
	for range 20000 {
		var text strings.Builder
		for range next(50) {
			if next(30) == 0 {
				text.WriteByte(byte(next(256)))
			} else {
				text.WriteByte("SLR"[next(3)])
			}
		}
		s, from, to := text.String(), someInts[next(len(someInts))], someInts[next(len(someInts))]
		is := len(s) <= 40 && strings.Trim(s, "SLR") == ""
		same(t, impl.IsTrack(s), is, "IsTrack", s)
		same(t, laidOf(s).ok, is, "joints and headings", s)
		same(t, got(impl.RunsText(s)), orNone(is, func() answer[string] { return gives(modelRuns(s)) }), "RunsText", s)
		same(t, got(impl.ParseRuns(s)), modelParse(s), "ParseRuns", s)
		_, ok := impl.CutTrack(s, from, to)
		same(t, ok, is && 0 <= from && from <= to && to <= len(s), "CutTrack succeeds", s, from, to)
		_, ok = impl.RepeatTrack(s, from)
		same(t, ok, is && from >= 0 && (s == "" || from <= 40/len(s)), "RepeatTrack succeeds", s, from)
	}
}

func TestListsAreNew(t *testing.T) {
	for _, track := range []string{"", "S", "SLLR", strings.Repeat("L", 40)} {
		joints, headings, counts := sure(impl.JointsOf(track)), sure(impl.HeadingsOf(track)), sure(impl.HeadingCounts(track))
		for i := range joints {
			joints[i], headings[i] = pt(9, 9, 9, 9), 9
		}
		for i := range counts {
			counts[i] = 99
		}
		same(t, laidOf(track), gives(toldLeads(modelLaid(track))), "joints and headings again", track)
		sum := 0
		for _, count := range sure(impl.HeadingCounts(track)) {
			sum += count
		}
		same(t, sum, len(track), "HeadingCounts again", track)
	}
}

// shareMemory tells whether one byte is part of both texts.
func shareMemory(a string, b string) bool {
	if a == "" || b == "" {
		return false
	}
	fromA, fromB := uintptr(unsafe.Pointer(unsafe.StringData(a))), uintptr(unsafe.Pointer(unsafe.StringData(b)))
	return fromA < fromB+uintptr(len(b)) && fromB < fromA+uintptr(len(a))
}

func TestTextsAreNew(t *testing.T) {
	for _, track := range append(tracksUpTo(3), longTracks()...) {
		for name, call := range textOfTrackCalls {
			// One byte is in the memory that the runtime keeps for all bytes.
			if result, _ := call(track); len(result) > 1 && shareMemory(result, track) {
				t.Error(name, "shares memory with", track)
			}
		}
		text := modelRuns(track)
		if result := sure(impl.ParseRuns(text)); len(result) > 1 && shareMemory(result, text) {
			t.Error("ParseRuns shares memory with", text)
		}
	}
}
