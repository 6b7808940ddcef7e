package tests

import (
	"math/rand/v2"
	"slices"
	"strings"
	"testing"

	"loop.example/quincunx/impl"
)

// longest is the longest text that may be, tooLong one byte more.
var (
	longest = strings.Repeat("m", 40)
	tooLong = strings.Repeat("m", 41)
)

// wrongPlaces are just out of -IntMax..IntMax, and as far out as can be.
var wrongPlaces = []int{1000000001, -1000000001, 1<<63 - 1, -1 << 63}

func TestLimits(t *testing.T) {
	if impl.TextMax != 40 || impl.ArgMax != 8 || impl.IntMax != 1000000000 || impl.ListMax != 16 || impl.KeyMax != 12 || impl.EntryMax != 12 || impl.TimeMax != 1000000 || impl.FileMax != 6000 || impl.ClientMax != 3 || impl.QueueMax != 6 || impl.WatchMax != 4 || impl.ItemMax != 16 || impl.GroupMax != 3 || impl.WaitMax != 16 {
		t.Error("a limit is not as the document has it")
	}
}

// chance is the same in every run, so that a failure comes again.
func chance(seed uint64) *rand.Rand {
	return rand.New(rand.NewPCG(seed, 77))
}

// anyText is one of few texts, so that some come twice, or one of any bytes.
func anyText(c *rand.Rand) string {
	few := []string{"", "a", "a", "b", "ab", "\x00", "\xff", "\r\n", "$1\r\na\r\n", "*", "?", "\u00e9", longest, longest[:39]}
	if c.IntN(4) > 0 {
		return few[c.IntN(len(few))]
	}
	bytes := make([]byte, c.IntN(41))
	for i := range bytes {
		bytes[i] = byte(c.IntN(256))
	}
	return string(bytes)
}

func anyTexts(c *rand.Rand, most int) []string {
	texts := make([]string, c.IntN(most+1))
	for i := range texts {
		texts[i] = anyText(c)
	}
	return texts
}

func anySet(c *rand.Rand, most int) []string {
	texts := anyTexts(c, most)
	slices.Sort(texts)
	return slices.Compact(texts)
}

func anyOrder(c *rand.Rand) []string {
	return append([]string{anyText(c)}, anyTexts(c, 7)...)
}

// many is so many texts, ascending, each once.
func many(n int) []string {
	texts := make([]string, n)
	for i := range texts {
		texts[i] = "t" + string(rune('A'+i))
	}
	return texts
}

// wrongLists are lists that are not ok.
func wrongLists() [][]string {
	return [][]string{many(17), {tooLong}, {"a", tooLong, "b"}, append(many(15), "x", tooLong)}
}

// wrongSets are lists that are no sets.
func wrongSets() [][]string {
	return append(wrongLists(), []string{"a", "a"}, []string{"b", "a"}, []string{"a", "c", "b"}, []string{"a", ""}, []string{"ab", "a"}, []string{"\xff", "\x7f"})
}

// textsOver is all texts of at most so many of these bytes.
func textsOver(bytes string, most int) []string {
	all := []string{""}
	last := all
	for range most {
		var next []string
		for _, text := range last {
			for i := range len(bytes) {
				next = append(next, text+bytes[i:i+1])
			}
		}
		all = append(all, next...)
		last = next
	}
	return all
}
