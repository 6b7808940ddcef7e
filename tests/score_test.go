package tests

import (
	"cmp"
	"math"
	"math/rand/v2"
	"slices"
	"strings"
	"testing"

	"loop.example/quincunx/impl"
)

const most = 1000000000 // IntMax, as the document has it

// inOrder is scores by number, then by text.
func inOrder(list []impl.Score) []impl.Score {
	out := slices.Clone(list)
	slices.SortFunc(out, func(a impl.Score, b impl.Score) int {
		return cmp.Or(cmp.Compare(a.Num, b.Num), strings.Compare(a.Text, b.Text))
	})
	return out
}

// anyNum is one of few numbers, so that several texts have one, or one at a limit.
func anyNum(c *rand.Rand) int {
	few := []int{0, 0, 1, -1, 2, 7, -7, most, -most, most - 1, 1 - most}
	return few[c.IntN(len(few))]
}

// scoresOf gives each text a number.
func scoresOf(c *rand.Rand, texts []string) []impl.Score {
	var out []impl.Score
	for _, text := range texts {
		out = append(out, impl.Score{Text: text, Num: anyNum(c)})
	}
	return inOrder(out)
}

func anyScores(c *rand.Rand, most int) []impl.Score {
	return scoresOf(c, anySet(c, most))
}

// manyScores is so many, two of each number.
func manyScores(n int) []impl.Score {
	var out []impl.Score
	for i, text := range many(n) {
		out = append(out, impl.Score{Text: text, Num: i/2 - 3})
	}
	return out
}

// wrongScores are scores that are not ok.
func wrongScores() [][]impl.Score {
	return [][]impl.Score{
		manyScores(17),
		manyScores(40),
		{{Text: tooLong, Num: 1}},
		{{Text: "a", Num: 1}, {Text: tooLong, Num: 2}, {Text: "b", Num: 3}},
		append(manyScores(15), impl.Score{Text: "x" + longest, Num: 9}),
		{{Text: "a", Num: most + 1}},
		{{Text: "a", Num: -most - 1}},
		{{Text: "a", Num: math.MinInt}},
		{{Text: "a", Num: 1}, {Text: "b", Num: math.MaxInt}},
		{{Text: "a", Num: 2}, {Text: "b", Num: 1}},
		{{Text: "b", Num: 1}, {Text: "a", Num: 1}},
		{{Text: "a", Num: 1}, {Text: "a", Num: 1}},
		{{Text: "a", Num: 1}, {Text: "a", Num: 2}},
		{{Text: "a", Num: 1}, {Text: "b", Num: 2}, {Text: "a", Num: 3}},
		{{Text: "", Num: -1}, {Text: "", Num: 0}},
		{{Text: "a", Num: 1}, {Text: "", Num: 1}},
		{{Text: "ab", Num: 1}, {Text: "a", Num: 1}},
		{{Text: "\xff", Num: 1}, {Text: "\x7f", Num: 1}},
		{{Text: "a", Num: 0}, {Text: "b", Num: -1}},
		append(manyScores(15), impl.Score{Text: "tA", Num: 90}),
		append(manyScores(15), impl.Score{Text: "x", Num: -90}),
	}
}

func TestScoresOk(t *testing.T) {
	right := [][]impl.Score{
		nil,
		{},
		{{}},
		{{Text: "", Num: 0}, {Text: "\x00", Num: 0}},
		{{Text: "b", Num: 1}, {Text: "a", Num: 2}},
		{{Text: "a", Num: 1}, {Text: "b", Num: 1}},
		{{Text: "a", Num: 1}, {Text: "ab", Num: 1}},
		{{Text: "z", Num: 1}, {Text: "\u00e9", Num: 1}, {Text: "\xff", Num: 1}},
		{{Text: "a", Num: -most}, {Text: "b", Num: most}},
		{{Text: longest[:39], Num: 1}, {Text: longest, Num: 1}},
		{{Text: "b", Num: -10}, {Text: "a", Num: -9}},
		manyScores(15),
		manyScores(16),
	}
	for _, list := range right {
		if !impl.ScoresOk(list) {
			t.Errorf("%v is ok", list)
		}
	}
	for _, wrong := range wrongScores() {
		if impl.ScoresOk(wrong) {
			t.Errorf("%v is not ok", wrong)
		}
	}
}

// Of scores in any order just one order is ok, and none that has a text twice.
func TestScoresOkInOneOrder(t *testing.T) {
	c := chance(31)
	for range 20000 {
		list := scoresOf(c, anyTexts(c, 3))
		c.Shuffle(len(list), func(i int, j int) { list[i], list[j] = list[j], list[i] })
		once := len(having(textsOf(list), func(string) bool { return true })) == len(list)
		if want := once && slices.Equal(list, inOrder(list)); impl.ScoresOk(list) != want {
			t.Fatalf("%v: %v", list, !want)
		}
	}
}

func textsOf(list []impl.Score) []string {
	var out []string
	for _, s := range list {
		out = append(out, s.Text)
	}
	return out
}

// lacking is scores without those of a text.
func lacking(list []impl.Score, text string) []impl.Score {
	return slices.DeleteFunc(slices.Clone(list), func(s impl.Score) bool { return s.Text == text })
}

// checkScoresPut is of scores that are ok.
func checkScoresPut(t *testing.T, list []impl.Score, s impl.Score) []impl.Score {
	t.Helper()
	rest := lacking(list, s.Text)
	want, isNew := inOrder(append(slices.Clone(rest), s)), len(rest) == len(list)
	fine := len(s.Text) <= 40 && -most <= s.Num && s.Num <= most && len(want) <= 16
	if !fine {
		want, isNew = list, false
	}
	got, fresh, ok := impl.ScoresPut(list, s)
	if !slices.Equal(got, want) || fresh != isNew || ok != fine {
		t.Fatalf("%v with %v: %v, %v, %v", list, s, got, fresh, ok)
	}
	if !fine {
		return got
	}
	if rank := impl.ScoresRank(got, s.Text); rank < 0 || got[rank] != s {
		t.Fatalf("%v with %v: its rank is %d", list, s, rank)
	}
	before, was := impl.ScoresDrop(list, s.Text)
	behind, is := impl.ScoresDrop(got, s.Text)
	if !slices.Equal(before, behind) || was == fresh || !is {
		t.Fatalf("%v with %v, then without: %v, %v", list, s, before, behind)
	}
	return got
}

// P14: a text that was put has its number, and no other one changes.
func TestP14ScoresPut(t *testing.T) {
	c := chance(32)
	for range 10000 {
		list := anyScores(c, 16)
		checkScoresPut(t, list, impl.Score{Text: anyText(c), Num: anyNum(c)})
		for _, s := range list {
			checkScoresPut(t, list, impl.Score{Text: s.Text, Num: anyNum(c)})
		}
	}
}

func TestP14ScoresPutOneByOne(t *testing.T) {
	c := chance(33)
	for range 100 {
		var list []impl.Score
		for range 300 {
			list = checkScoresPut(t, list, impl.Score{Text: many(20)[c.IntN(20)], Num: anyNum(c)})
		}
		if len(list) != 16 {
			t.Fatalf("%d scores", len(list))
		}
	}
}

// P14: texts of one number stand by text, wherever the new one belongs.
func TestP14ScoresPutOfOneNumber(t *testing.T) {
	for size := range 16 {
		for at := range size + 1 {
			var list []impl.Score
			for i, text := range many(size + 1) {
				if i != at {
					list = append(list, impl.Score{Text: text, Num: 5})
				}
			}
			checkScoresPut(t, list, impl.Score{Text: many(size + 1)[at], Num: 5})
		}
	}
}

// P14: a text that gets another number leaves its place, and comes to another one, of a full list, too.
func TestP14ScoresPutAnotherNumber(t *testing.T) {
	for size := range 17 {
		for _, s := range manyScores(size) {
			for num := -5; num <= 6; num++ {
				checkScoresPut(t, manyScores(size), impl.Score{Text: s.Text, Num: num})
			}
		}
	}
}

func TestP14ScoresPutAtItsLimits(t *testing.T) {
	for size := range 17 {
		for _, s := range []impl.Score{{}, {Text: "x", Num: most}, {Text: "x", Num: -most}, {Text: longest, Num: 1}, {Text: "\r\n\x00\xff"}} {
			checkScoresPut(t, manyScores(size), s)
		}
		for _, num := range wrongPlaces {
			checkScoresPut(t, manyScores(size), impl.Score{Text: "x", Num: num})
			checkScoresPut(t, manyScores(size), impl.Score{Text: "tA", Num: num})
		}
		checkScoresPut(t, manyScores(size), impl.Score{Text: tooLong, Num: 1})
		checkScoresPut(t, manyScores(size), impl.Score{Text: tooLong, Num: most + 1})
	}
	for _, wrong := range wrongScores() {
		for _, s := range append(slices.Clone(wrong), impl.Score{}, impl.Score{Text: "a", Num: 7}) {
			if got, fresh, ok := impl.ScoresPut(wrong, s); len(got) != 0 || fresh || ok {
				t.Errorf("not ok, %v with %v: %v, %v, %v", wrong, s, got, fresh, ok)
			}
		}
	}
}

func checkScoresDrop(t *testing.T, list []impl.Score, text string) {
	t.Helper()
	want := lacking(list, text)
	got, was := impl.ScoresDrop(list, text)
	if !slices.Equal(got, want) || was != (len(want) < len(list)) {
		t.Fatalf("%v without %q: %v, %v", list, text, got, was)
	}
	if rank := impl.ScoresRank(got, text); rank != -1 {
		t.Fatalf("%v without %q: its rank is %d", list, text, rank)
	}
}

// P15: a text that was taken away has no rank, all others keep their order.
func TestP15ScoresDrop(t *testing.T) {
	c := chance(34)
	for range 5000 {
		list := anyScores(c, 16)
		checkScoresDrop(t, list, anyText(c))
		for _, s := range list {
			checkScoresDrop(t, list, s.Text)
		}
	}
}

func TestP15ScoresDropAtItsLimits(t *testing.T) {
	for _, text := range []string{"", "a", longest, tooLong} {
		checkScoresDrop(t, nil, text)
		checkScoresDrop(t, []impl.Score{{Text: "", Num: most}}, text)
		checkScoresDrop(t, []impl.Score{{Text: longest, Num: -most}}, text)
		checkScoresDrop(t, manyScores(16), text)
	}
	for _, wrong := range wrongScores() {
		for _, s := range append(slices.Clone(wrong), impl.Score{Text: "no such"}) {
			if got, was := impl.ScoresDrop(wrong, s.Text); len(got) != 0 || was {
				t.Errorf("not ok, %v without %q: %v, %v", wrong, s.Text, got, was)
			}
		}
	}
}

// lower is how many scores have a lower number, or the same and a lower text.
func lower(list []impl.Score, than impl.Score) int {
	n := 0
	for _, s := range list {
		if s.Num < than.Num || s.Num == than.Num && s.Text < than.Text {
			n++
		}
	}
	return n
}

// P16: a rank is a place, and the score there has the text.
func TestP16ScoresRank(t *testing.T) {
	c := chance(35)
	for range 5000 {
		list := anyScores(c, 16)
		for at, s := range list {
			if rank := impl.ScoresRank(list, s.Text); rank != lower(list, s) || rank != at {
				t.Fatalf("%v, %q: %d", list, s.Text, rank)
			}
		}
		text := anyText(c)
		if rank := impl.ScoresRank(list, text); (rank >= 0) != slices.Contains(textsOf(list), text) || rank < -1 {
			t.Fatalf("%v, %q: %d", list, text, rank)
		}
	}
}

func TestP16ScoresRankAtItsLimits(t *testing.T) {
	for _, text := range []string{"", "a", "t", "tAA", "tQ", tooLong} {
		for size := range 17 {
			if rank := impl.ScoresRank(manyScores(size), text); rank != -1 {
				t.Errorf("%q of %d: %d", text, size, rank)
			}
		}
	}
	if rank := impl.ScoresRank([]impl.Score{{Text: "", Num: 3}, {Text: longest, Num: 3}}, longest); rank != 1 {
		t.Error(rank)
	}
	for _, wrong := range wrongScores() {
		for _, s := range append(slices.Clone(wrong), impl.Score{Text: "no such"}) {
			if rank := impl.ScoresRank(wrong, s.Text); rank != -1 {
				t.Errorf("not ok, %v, %q: %d", wrong, s.Text, rank)
			}
		}
	}
}

func checkScoresBy(t *testing.T, list []impl.Score, low int, high int) {
	t.Helper()
	var want []impl.Score
	for _, s := range list {
		if s.Num >= low && s.Num <= high {
			want = append(want, s)
		}
	}
	got := impl.ScoresBy(list, low, high)
	if !slices.Equal(got, want) {
		t.Fatalf("%v by %d..%d: %v", list, low, high, got)
	}
	if len(got) == 0 {
		return
	}
	first := impl.ScoresRank(list, got[0].Text)
	if !slices.Equal(got, list[first:first+len(got)]) {
		t.Fatalf("%v by %d..%d: not side by side: %v", list, low, high, got)
	}
}

// P17: scores by numbers are all from one to another one, side by side.
func TestP17ScoresBy(t *testing.T) {
	c := chance(36)
	for range 10000 {
		checkScoresBy(t, anyScores(c, 16), anyNum(c), anyNum(c))
	}
	for size := range 17 {
		for low := -5; low <= 6; low++ {
			for high := -5; high <= 6; high++ {
				checkScoresBy(t, manyScores(size), low, high)
			}
		}
	}
}

// The document asks nothing of the two numbers: what lies within them is told, also if they are out of -IntMax..IntMax.
func TestP17ScoresByAtItsLimits(t *testing.T) {
	ends := []impl.Score{{Text: "a", Num: -most}, {Text: "b", Num: 0}, {Text: "c", Num: most}}
	nums := append([]int{-most, 1 - most, 0, most - 1, most}, wrongPlaces...)
	for _, low := range nums {
		for _, high := range nums {
			checkScoresBy(t, ends, low, high)
			checkScoresBy(t, nil, low, high)
			for _, wrong := range wrongScores() {
				if got := impl.ScoresBy(wrong, low, high); len(got) != 0 {
					t.Errorf("not ok, %v: %v", wrong, got)
				}
			}
		}
	}
}

// checkScoresAt holds ScoresAt against ListRange of the texts.
func checkScoresAt(t *testing.T, list []impl.Score, from int, to int) {
	t.Helper()
	got := impl.ScoresAt(list, from, to)
	if !slices.Equal(textsOf(got), impl.ListRange(textsOf(list), from, to)) {
		t.Fatalf("%v from %d to %d: %v", list, from, to, got)
	}
	for _, s := range got {
		if !slices.Contains(list, s) {
			t.Fatalf("%v from %d to %d: %v was not there", list, from, to, s)
		}
	}
}

// P18: scores by places are those between.
func TestP18ScoresAt(t *testing.T) {
	for size := range 17 {
		list := manyScores(size)
		for from := -18; from <= 18; from++ {
			for to := -18; to <= 18; to++ {
				checkScoresAt(t, list, from, to)
			}
		}
		if all := impl.ScoresAt(list, 0, -1); !slices.Equal(all, list) {
			t.Errorf("all of %v: %v", list, all)
		}
	}
	c := chance(37)
	for range 5000 {
		checkScoresAt(t, anyScores(c, 16), c.IntN(40)-20, c.IntN(40)-20)
	}
}

func TestP18ScoresAtItsLimits(t *testing.T) {
	list := manyScores(16)
	if got := impl.ScoresAt(list, -most, most); !slices.Equal(got, list) {
		t.Errorf("from end to end: %v", got)
	}
	for _, place := range wrongPlaces {
		for _, got := range [][]impl.Score{impl.ScoresAt(list, place, -1), impl.ScoresAt(list, 0, place), impl.ScoresAt(list, place, place)} {
			if len(got) != 0 {
				t.Errorf("no place %d: %v", place, got)
			}
		}
	}
	for _, wrong := range wrongScores() {
		for _, to := range []int{-1, 0, 20} {
			if got := impl.ScoresAt(wrong, 0, to); len(got) != 0 {
				t.Errorf("not ok, %v: %v", wrong, got)
			}
		}
	}
}
