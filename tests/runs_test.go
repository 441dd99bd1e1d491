package tests

import (
	"strings"
	"testing"

	"loop.example/g01217/impl"
)

func TestRunsText(t *testing.T) {
	wanted := map[string]string{
		"": "-", "S": "S", "SSLR": "S2LR", "LLLLLLLL": "L8", "SLRSLR": "SLRSLR", "RRSSRR": "R2S2R2",
		"SSSSSSSSSS": "S10", strings.Repeat("R", 40): "R40", "L" + strings.Repeat("S", 39): "LS39",
		strings.Repeat("L", 20) + strings.Repeat("R", 20): "L20R20", strings.Repeat("SL", 20): strings.Repeat("SL", 20),
		strings.Repeat("SSLL", 10): strings.Repeat("S2L2", 10),
	}
	for track, want := range wanted {
		same(t, got(impl.RunsText(track)), gives(want), "RunsText", track)
		same(t, got(impl.ParseRuns(want)), gives(track), "ParseRuns", want)
	}
}

func TestRunsAreReadBack(t *testing.T) {
	for _, track := range append(tracksUpTo(8), longTracks()...) {
		text := modelRuns(track)
		same(t, got(impl.RunsText(track)), gives(text), "RunsText", track)
		same(t, got(impl.ParseRuns(text)), gives(track), "ParseRuns", text)
	}
}

func TestTextsOfNoRuns(t *testing.T) {
	texts := []string{
		"", "SS", "S1", "S0", "S01", "S02", "S00", "S002", "2", "2S", "S-1", "S-2", "S+2", "S 2", " S2", "S2 ", "S2\n", "S2S", "SS2", "S2S3", "SSS",
		"--", "-S", "S-", "-0", "-1", " -", "s2", "l", "X", "X2", "S2X", "S2X3", "S1L", "LS1", "LS0", "S0L", "LS0R", "LS0L", "S2,L", "S2.0", "S0x2", "S1_0", "S２",
		"S41", "S40L", "LS40", "L20R21", "L39R2", "S100", "S400", "S99999999999999999999", "S18446744073709551618",
		"S9223372036854775807", "S9223372036854775808", "S-9223372036854775808", "S9223372036854775807L9223372036854775807",
		"\x00", "\xff", "S\xff", "S2\x00", "Ｓ2", strings.Repeat("SL", 21), strings.Repeat("S2L2", 11), "S" + strings.Repeat("0", 100000) + "2",
		"S" + strings.Repeat("9", 100000), strings.Repeat("SLR", 100000), strings.Repeat("S2", 100000), strings.Repeat("7", 100000),
	}
	for _, s := range texts {
		same(t, got(impl.ParseRuns(s)), failsAs[string](), "ParseRuns", s)
	}
}

func TestLengthsOfRuns(t *testing.T) {
	for _, s := range []string{"S2", "S9", "S10", "S39", "S40", "L20R20", "L39R", "LR39", "S10L10R10S10"} {
		same(t, got(impl.ParseRuns(s)), modelParse(s), "ParseRuns", s)
		same(t, got(impl.RunsText(sure(impl.ParseRuns(s)))), gives(s), "RunsText", s)
	}
}

func TestParseRunsLikeTheModel(t *testing.T) {
	for _, s := range append(wordsUpTo(5, "SLR-012"), wordsUpTo(4, "SL 3459+")...) {
		same(t, got(impl.ParseRuns(s)), modelParse(s), "ParseRuns", s)
	}
}
