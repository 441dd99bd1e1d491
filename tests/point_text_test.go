package tests

import (
	"strings"
	"testing"

	"loop.example/g01217/impl"
)

func TestPointTexts(t *testing.T) {
	wanted := map[impl.Point]string{
		pt(0, 0, 0, 0):                         "0,0,0,0",
		pt(1, -2, 30, -400):                    "1,-2,30,-400",
		pt(999999, -999999, 1000, -10):         "999999,-999999,1000,-10",
		pt(-999999, -999999, -999999, -999999): "-999999,-999999,-999999,-999999",
	}
	for p, want := range wanted {
		same(t, got(impl.PointText(p)), gives(want), "PointText", p)
		same(t, got(impl.ParsePoint(want)), gives(p), "ParsePoint", want)
	}
	for _, p := range allPoints() {
		same(t, got(impl.ParsePoint(sure(impl.PointText(p)))), gives(p), "read back", p)
	}
}

// noNumbers are words that are no number of a PointText.
var noNumbers = []string{
	"", "-", "+1", "+0", "-0", "--1", "+-1", "01", "00", "-01", "-00", " 1", "1 ", " ", "1\n", "\t1", "1\x00",
	"1000000", "-1000000", "0999999", "1_000", "0x1", "1e3", "1.0", "a", "z", "?", "1-", "1+1", "٣", "１", "\xff",
	"9223372036854775807", "-9223372036854775808", "9223372036854775808", "18446744073709551616", "4294967296",
	"99999999999999999999999999",
}

func TestTextsOfNoPoint(t *testing.T) {
	for _, word := range noNumbers {
		for place := range 4 {
			words := []string{"1", "-2", "0", "999999"}
			words[place] = word
			text := strings.Join(words, ",")
			same(t, got(impl.ParsePoint(text)), failsAs[impl.Point](), "ParsePoint", text)
		}
	}
	texts := []string{
		"", ",", ",,", ",,,", ",,,,", "0", "0,0", "0,0,0", "0,0,0,", ",0,0,0", "0,0,0,0,", ",0,0,0,0", "0,0,0,0,0", "0,,0,0",
		"0, 0,0,0", "0,0,0,0 ", " 0,0,0,0", "0,0,0,0\n", "0;0;0;0", "0 0 0 0", "(0,0,0,0)", "0,0,0,0\x000", "0.0.0.0", "0,0,0,0,,",
	}
	texts = append(texts, strings.Repeat(",", 100000), strings.Repeat("1,", 100000), strings.Repeat("1", 100000), strings.Repeat("0", 100000)+",0,0,0")
	for _, text := range texts {
		same(t, got(impl.ParsePoint(text)), failsAs[impl.Point](), "ParsePoint", text)
	}
}
