package tests

import (
	"regexp"
	"strconv"
	"strings"
	"testing"

	"loop.example/g01217/impl"
)

func TestYardText(t *testing.T) {
	wanted := map[string]impl.Yard{
		"tt:4,3,5,1,0,2":                 yard("tt", 4, 3, 5, 1, 0, 2),
		"ls:1,0,3,2,5,4":                 {Kinds: []int{0, 1}, Rails: []int{1, 0, 3, 2, 5, 4}},
		"sl:5,4,3,2,1,0":                 {Kinds: []int{1, 0}, Rails: []int{5, 4, 3, 2, 1, 0}},
		"tlst:10,3,5,1,6,2,4,9,11,7,0,8": {Kinds: []int{2, 0, 1, 2}, Rails: []int{10, 3, 5, 1, 6, 2, 4, 9, 11, 7, 0, 8}},
		"llsstt:16,3,5,1,6,2,4,9,11,7,12,8,10,15,17,13,0,14": sure(impl.RingYard([]int{0, 0, 1, 1, 2, 2})),
	}
	for text, y := range wanted {
		same(t, got(impl.YardText(y)), gives(text), "YardText", y)
		same(t, printed(impl.ParseYard(text)), printed(y, true), "ParseYard", text)
	}
}

// modelYardText spells a yard number by number.
func modelYardText(y impl.Yard) string {
	text := ""
	for _, kind := range y.Kinds {
		text += string("lst"[kind])
	}
	between := ":"
	for _, other := range y.Rails {
		text += between + strconv.Itoa(other)
		between = ","
	}
	return text
}

func TestYardsAreReadBack(t *testing.T) {
	for _, y := range someYards() {
		text := modelYardText(y)
		same(t, got(impl.YardText(y)), gives(text), "YardText", y)
		same(t, printed(impl.ParseYard(text)), printed(y, true), "ParseYard", text)
	}
}

func TestTextsOfNoYards(t *testing.T) {
	texts := []string{
		"", ":", "tt", "tt:", ":4,3,5,1,0,2", "4,3,5,1,0,2", "tt4,3,5,1,0,2", "t:4,3,5,1,0,2", "ttt:4,3,5,1,0,2", "tttt:4,3,5,1,0,2", "tttttttt:4,3,5,1,0,2",
		"tt:4,3,5,1,0", "tt:4,3,5,1,0,", "tt:4,3,5,1,0,2,", "tt:,4,3,5,1,0,2", "tt:4,,3,5,1,0,2", "tt:4,3,5,1,0,2,6", "tt:4,3,5,1,0,2,7,6", "tt:4,3,5,1,0,2:",
		"tt::4,3,5,1,0,2", "tt:4:3:5:1:0:2", "tt:4;3;5;1;0;2", "tt,4,3,5,1,0,2", "tt:4 3 5 1 0 2", "tt: 4,3,5,1,0,2", "tt :4,3,5,1,0,2", " tt:4,3,5,1,0,2",
		"tt:4,3,5,1,0,2 ", "tt:4,3,5,1,0,2\n", "tt:4,3,5,1,0,2\x00", "tt\x00:4,3,5,1,0,2", "tt:4, 3,5,1,0,2", "t,t:4,3,5,1,0,2", "t t:4,3,5,1,0,2",
		"TT:4,3,5,1,0,2", "tT:4,3,5,1,0,2", "22:4,3,5,1,0,2", "tx:4,3,5,1,0,2", "t?:4,3,5,1,0,2", "ｔt:4,3,5,1,0,2", "\xfft:4,3,5,1,0,2", "lt\x00\x00\x00\x00:4,3,5,1,0,2",
		"tt:+4,3,5,1,0,2", "tt:04,3,5,1,0,2", "tt:4,3,5,1,-0,2", "tt:4,3,5,1,+0,2", "tt:4,3,5,1,00,2", "tt:4,3,5,1,0,02", "tt:0x4,3,5,1,0,2", "tt:4.0,3,5,1,0,2",
		"tt:4_,3,5,1,0,2", "tt:4e0,3,5,1,0,2", "tt:a,3,5,1,0,2", "tt:４,3,5,1,0,2", "tt:18446744073709551620,3,5,1,0,2", "tt:4294967300,3,5,1,0,2",
		"tt:4,3,5,1,0,-4", "tt:-2,3,5,1,0,2", "tt:4,3,5,1,0,6", "tt:9223372036854775807,3,5,1,0,2", "tt:-9223372036854775808,3,5,1,0,2",
		// These tell numbers of what is no yard.
		"tt:0,1,2,3,4,5", "tt:4,3,2,1,0,5", "tt:3,4,5,1,2,0", "tt:4,3,5,1,4,2", "tt:1,2,0,4,5,3", "t:1,0,2", "t:1,0", "l:0,2,1", "lst:1,0,3,2,5,4,7,6,8", "lst:1,0,3,2,5,4,7,6,9,8",
		modelYardText(tooManySwitches()),
		strings.Repeat("t", 100000), strings.Repeat("l", 100000) + ":0", strings.Repeat(":", 100000), "tt:" + strings.Repeat("4,", 100000), "tt:" + strings.Repeat("0", 100000) + "4,3,5,1,0,2",
		"tt:4,3,5,1,0," + strings.Repeat("9", 100000),
	}
	for _, s := range texts {
		same(t, printed(impl.ParseYard(s)), failsAs[string](), "ParseYard", s[:min(len(s), 60)])
	}
}

var (
	likeYards  = regexp.MustCompile(`^[lst]+(:(0|[1-9][0-9]?)(,(0|[1-9][0-9]?))*)$`)
	eachNumber = regexp.MustCompile(`[0-9]+`)
)

// modelParseYard is the answer of ParseYard.
func modelParseYard(s string) answer[string] {
	if !likeYards.MatchString(s) {
		return failsAs[string]()
	}
	letters, numbers, _ := strings.Cut(s, ":")
	y := impl.Yard{Kinds: kindsOf(letters)}
	for _, word := range eachNumber.FindAllString(numbers, -1) {
		number, _ := strconv.Atoi(word)
		y.Rails = append(y.Rails, number)
	}
	if !modelIsYard(y) {
		return failsAs[string]()
	}
	return printed(y, true)
}

// TestChangedTextsOfYards takes bytes out of texts of yards, puts others in, and exchanges them.
func TestChangedTextsOfYards(t *testing.T) {
	read := 0
	for i, y := range someYards() {
		if i%13 != 0 {
			continue
		}
		text := modelYardText(y)
		for at := range len(text) {
			changed := []string{text[:at] + text[at+1:], text[:at] + text[at:at+1] + text[at:]}
			for _, letter := range "lst:,0129-+ T\x00" {
				changed = append(changed, text[:at]+string(letter)+text[at:], text[:at]+string(letter)+text[at+1:])
			}
			for _, s := range changed {
				want := modelParseYard(s)
				same(t, printed(impl.ParseYard(s)), want, "ParseYard", s)
				if want.ok {
					read++
				}
			}
		}
	}
	if read < 100 {
		t.Error("too few changed texts are those of yards:", read)
	}
}
