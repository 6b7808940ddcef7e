package tests

import (
	"cmp"
	"math"
	"math/big"
	"math/rand/v2"
	"slices"
	"strconv"
	"strings"
	"testing"

	"loop.example/quincunx/impl"
)

// wrongBits are neither 0 nor 1.
var wrongBits = []int{-1, 2, 3, 256, 257, -256, math.MaxInt, math.MinInt}

// wrongAts are out of the bits that a text may have.
var wrongAts = []int{-1, -2, -8, -320, 320, 321, 327, 1000, most, math.MaxInt, math.MinInt}

// bitsOf is a text's bits, a figure each.
func bitsOf(text string) string {
	var out strings.Builder
	for i := range len(text) {
		figures := strconv.FormatInt(int64(text[i]), 2)
		out.WriteString(strings.Repeat("0", 8-len(figures)) + figures)
	}
	return out.String()
}

// bitsText is a text of at most so many bytes, now and then of few bits that are 1, or few that are 0.
func bitsText(c *rand.Rand, bytes int) string {
	out := make([]byte, c.IntN(bytes+1))
	of := c.IntN(4)
	for i := range out {
		switch few := byte(1) << c.IntN(8); {
		case of == 0 && c.IntN(10) == 0:
			out[i] = few
		case of == 1:
			out[i] = 255
		case of == 2:
			out[i] = 255 ^ few
		case of == 3:
			out[i] = byte(c.IntN(256))
		}
	}
	return string(out)
}

func fullBits(bytes int) string {
	return strings.Repeat("\xff", bytes)
}

func noughts(bytes int) string {
	return strings.Repeat("\x00", bytes)
}

func oneBit(figures string, at int) int {
	if at < len(figures) && figures[at] == '1' {
		return 1
	}
	return 0
}

func checkBits(t *testing.T, text string) {
	t.Helper()
	figures := bitsOf(text)
	for at := range 320 {
		if got := impl.TextBitGet(text, at); got != oneBit(figures, at) {
			t.Fatalf("bit %d of %q: %d", at, text, got)
		}
	}
	for _, at := range wrongAts {
		if got := impl.TextBitGet(text, at); got != 0 {
			t.Fatalf("bit %d of %q: %d", at, text, got)
		}
	}
}

func TestP50TextBitGet(t *testing.T) {
	c := chance(201)
	for range 500 {
		checkBits(t, bitsText(c, 40))
	}
	for bytes := range 41 {
		checkBits(t, fullBits(bytes))
		checkBits(t, noughts(bytes))
	}
	for at := range 321 {
		for _, long := range []string{fullBits(41), tooLong, fullBits(400)} {
			if got := impl.TextBitGet(long, at); got != 0 {
				t.Fatalf("bit %d of %d bytes: %d", at, len(long), got)
			}
		}
	}
}

// putBit is figures with one of them put, and noughts up to it as far as they are whole bytes.
func putBit(figures string, at int, bit int) string {
	for len(figures) <= at {
		figures += "00000000"
	}
	return figures[:at] + strconv.Itoa(bit) + figures[at+1:]
}

// checkBitPut is of what may be put.
func checkBitPut(t *testing.T, text string, at int, bit int) {
	t.Helper()
	figures := bitsOf(text)
	got, was, ok := impl.TextBitPut(text, at, bit)
	if want := putBit(figures, at, bit); bitsOf(got) != want || !ok || was != oneBit(figures, at) {
		t.Fatalf("%q with bit %d %d: %q, %d, %v", text, at, bit, got, was, ok)
	}
	if impl.TextBitGet(got, at) != bit || len(got) > 40 {
		t.Fatalf("%q with bit %d %d: it is not there: %q", text, at, bit, got)
	}
	for other := range 320 {
		if other != at && impl.TextBitGet(got, other) != impl.TextBitGet(text, other) {
			t.Fatalf("%q with bit %d %d: bit %d is another one", text, at, bit, other)
		}
	}
	back, is, ok := impl.TextBitPut(got, at, was)
	if !ok || is != bit || len(back) != len(got) || impl.TextBitCount(back, 0, -1) != strings.Count(figures, "1") {
		t.Fatalf("%q with bit %d %d, and as it was: %q, %d, %v", text, at, bit, back, is, ok)
	}
}

// P50: a bit that was put is got, and all others stay.
func TestP50TextBitPut(t *testing.T) {
	c := chance(202)
	for range 1500 {
		checkBitPut(t, bitsText(c, 40), c.IntN(320), c.IntN(2))
	}
	for _, bytes := range []int{0, 1, 7, 8, 9, 16, 39, 40} {
		for at := range 320 {
			checkBitPut(t, fullBits(bytes), at, at%2)
			checkBitPut(t, noughts(bytes), at, 1-at%2)
		}
	}
}

func TestP50TextBitPutBehindTheEnd(t *testing.T) {
	for i, c := range []struct {
		text string
		at   int
		bit  int
		want string
		was  int
	}{
		{"", 0, 1, "\x80", 0}, {"", 0, 0, "\x00", 0}, {"", 7, 1, "\x01", 0}, {"", 8, 1, "\x00\x80", 0},
		{"a", 7, 0, "\x60", 1}, {"a", 7, 1, "a", 1}, {"a", 8, 0, "a\x00", 0}, {"a", 16, 0, "a\x00\x00", 0}, {"a", 23, 1, "a\x00\x01", 0},
		{"", 319, 1, noughts(39) + "\x01", 0}, {"", 319, 0, noughts(40), 0}, {fullBits(40), 319, 0, fullBits(39) + "\xfe", 1}, {longest, 0, 1, "\xed" + longest[1:], 0},
	} {
		if got, was, ok := impl.TextBitPut(c.text, c.at, c.bit); got != c.want || was != c.was || !ok {
			t.Errorf("%d: %q, %d, %v", i, got, was, ok)
		}
	}
}

func TestP50TextBitPutOfOthers(t *testing.T) {
	refused := func(text string, at int, bit int) {
		t.Helper()
		if got, was, ok := impl.TextBitPut(text, at, bit); got != text || was != 0 || ok {
			t.Errorf("%q with bit %d %d: %q, %d, %v", text, at, bit, got, was, ok)
		}
	}
	for _, text := range []string{"", "a", fullBits(8), fullBits(40), tooLong, fullBits(41), fullBits(500)} {
		for _, at := range wrongAts {
			refused(text, at, 0)
			refused(text, at, 1)
		}
		for _, bit := range wrongBits {
			refused(text, 0, bit)
			refused(text, 7, bit)
			refused(text, 319, bit)
		}
	}
	for _, at := range []int{0, 1, 319, 327} {
		refused(tooLong, at, 0)
		refused(fullBits(41), at, 1)
	}
}

func checkBitCount(t *testing.T, text string, from int, to int) {
	t.Helper()
	want := 0
	for i := range len(text) {
		if isBetween(i, len(text), from, to) {
			want += strings.Count(bitsOf(text[i:i+1]), "1")
		}
	}
	if got := impl.TextBitCount(text, from, to); got != want {
		t.Fatalf("%q from %d to %d: %d, not %d", text, from, to, got, want)
	}
}

// P51: bits of a text are those of its parts together.
func TestP51TextBitCount(t *testing.T) {
	c := chance(203)
	for range 3000 {
		text := bitsText(c, 40)
		checkBitCount(t, text, c.IntN(90)-45, c.IntN(90)-45)
		ones := 0
		for at := range 320 {
			ones += impl.TextBitGet(text, at)
		}
		if all := impl.TextBitCount(text, 0, -1); all != ones || all != strings.Count(bitsOf(text), "1") {
			t.Fatalf("%q: %d, not %d", text, all, ones)
		}
		at := c.IntN(len(text) + 1)
		if a, b := impl.TextBitCount(text[:at], 0, -1), impl.TextBitCount(text[at:], 0, -1); a+b != ones {
			t.Fatalf("%q in two parts: %d and %d, not %d", text, a, b, ones)
		}
	}
}

func TestP51TextBitCountAtItsLimits(t *testing.T) {
	for bytes := range 41 {
		text := strings.Repeat("\x07", bytes)
		for from := -bytes - 2; from <= bytes+2; from++ {
			for to := -bytes - 2; to <= bytes+2; to++ {
				checkBitCount(t, text, from, to)
			}
		}
		if got := impl.TextBitCount(text, -most, most); got != 3*bytes {
			t.Errorf("from end to end of %d: %d", bytes, got)
		}
		for _, place := range wrongPlaces {
			for _, got := range []int{impl.TextBitCount(text, place, -1), impl.TextBitCount(text, 0, place), impl.TextBitCount(text, place, place)} {
				if got != 0 {
					t.Errorf("no place %d: %d", place, got)
				}
			}
		}
	}
	if got := impl.TextBitCount(fullBits(40), 0, -1); got != 320 {
		t.Error(got)
	}
	for _, bytes := range []int{41, 48, 500} {
		if got := impl.TextBitCount(fullBits(bytes), 0, -1); got != 0 {
			t.Errorf("%d bytes: %d", bytes, got)
		}
	}
}

func checkBitFind(t *testing.T, text string, bit int) {
	t.Helper()
	want := strings.Index(bitsOf(text), strconv.Itoa(bit))
	if want < 0 && bit == 0 && text != "" {
		want = 8 * len(text)
	}
	got := impl.TextBitFind(text, bit)
	if got != want {
		t.Fatalf("first %d of %q: %d, not %d", bit, text, got, want)
	}
	if got < 0 {
		return
	}
	if got < 320 && impl.TextBitGet(text, got) != bit {
		t.Fatalf("first %d of %q: %d is not so", bit, text, got)
	}
	for at := range got {
		if impl.TextBitGet(text, at) == bit {
			t.Fatalf("first %d of %q: %d is so, ahead of %d", bit, text, at, got)
		}
	}
}

// P52: the first bit that is so is so, and none ahead is.
func TestP52TextBitFind(t *testing.T) {
	c := chance(204)
	for range 3000 {
		text := bitsText(c, 40)
		checkBitFind(t, text, 0)
		checkBitFind(t, text, 1)
	}
	for bytes := range 41 {
		for _, text := range []string{fullBits(bytes), noughts(bytes), fullBits(bytes) + noughts(40-bytes), noughts(bytes) + fullBits(40-bytes)} {
			checkBitFind(t, text, 0)
			checkBitFind(t, text, 1)
		}
		for at := range 8 * bytes {
			one, _, _ := impl.TextBitPut(noughts(bytes), at, 1)
			none, _, _ := impl.TextBitPut(fullBits(bytes), at, 0)
			if a, b := impl.TextBitFind(one, 1), impl.TextBitFind(none, 0); a != at || b != at {
				t.Fatalf("bit %d alone of %d bytes: %d, %d", at, bytes, a, b)
			}
		}
	}
}

func TestP52TextBitFindAtItsLimits(t *testing.T) {
	if a, b := impl.TextBitFind("", 0), impl.TextBitFind("", 1); a != -1 || b != -1 {
		t.Errorf("of nothing: %d, %d", a, b)
	}
	if a, b := impl.TextBitFind(fullBits(40), 0), impl.TextBitFind(noughts(40), 1); a != 320 || b != -1 {
		t.Errorf("of all: %d, %d", a, b)
	}
	for _, long := range []string{tooLong, fullBits(41), noughts(41), fullBits(48), noughts(500)} {
		if a, b := impl.TextBitFind(long, 0), impl.TextBitFind(long, 1); a != -1 || b != -1 {
			t.Errorf("of %d bytes: %d, %d", len(long), a, b)
		}
	}
	for _, bit := range wrongBits {
		for _, text := range []string{"", "a", noughts(3), fullBits(3), fullBits(40)} {
			if got := impl.TextBitFind(text, bit); got != -1 {
				t.Errorf("%d of %q: %d", bit, text, got)
			}
		}
	}
}

// together is the numbers of a text in two lists together, by numbers that have no end; false where it is in none, both only where it is in each.
func together(a []impl.Score, b []impl.Score, text string) (num int, one bool, both bool) {
	sum, lists := new(big.Int), 0
	for _, list := range [][]impl.Score{a, b} {
		for _, s := range list {
			if s.Text == text {
				sum.Add(sum, big.NewInt(int64(s.Num)))
				lists++
			}
		}
	}
	switch {
	case sum.Cmp(big.NewInt(most)) > 0:
		return most, true, lists == 2
	case sum.Cmp(big.NewInt(-most)) < 0:
		return -most, true, lists == 2
	}
	return int(sum.Int64()), lists > 0, lists == 2
}

func checkTogether(t *testing.T, a []impl.Score, b []impl.Score) {
	t.Helper()
	var any, both []impl.Score
	for _, text := range having(append(textsOf(a), textsOf(b)...), func(string) bool { return true }) {
		num, _, inBoth := together(a, b, text)
		any = append(any, impl.Score{Text: text, Num: num})
		if inBoth {
			both = append(both, impl.Score{Text: text, Num: num})
		}
	}
	if got := impl.ScoresAny(a, b); !slices.Equal(got, inOrder(any)) {
		t.Fatalf("any of %v and %v: %v", a, b, got)
	}
	if got := impl.ScoresBoth(a, b); !slices.Equal(got, inOrder(both)) {
		t.Fatalf("both of %v and %v: %v", a, b, got)
	}
	if !slices.Equal(impl.ScoresAny(a, b), impl.ScoresAny(b, a)) || !slices.Equal(impl.ScoresBoth(a, b), impl.ScoresBoth(b, a)) {
		t.Fatalf("%v and %v: not the same the other way round", a, b)
	}
}

// P53: scores of two are those of each, with numbers together.
func TestP53ScoresTogether(t *testing.T) {
	c := chance(205)
	for range 5000 {
		checkTogether(t, anyScores(c, 16), anyScores(c, 16))
	}
	for size := range 17 {
		checkTogether(t, manyScores(size), manyScores(16-size))
		checkTogether(t, manyScores(size), nil)
		checkTogether(t, manyScores(size), manyScores(size))
	}
}

func TestP53ScoresTogetherAtTheirLimits(t *testing.T) {
	nums := []int{0, 1, -1, most, -most, most - 1, 1 - most, most/2 + 1, most / 2, -most / 2, -most/2 - 1}
	for _, n := range nums {
		for _, m := range nums {
			checkTogether(t, []impl.Score{{Text: longest, Num: n}}, []impl.Score{{Text: longest, Num: m}})
			checkTogether(t, inOrder([]impl.Score{{Text: "a", Num: n}, {Text: "b", Num: m}}), inOrder([]impl.Score{{Text: "a", Num: m}, {Text: "c", Num: n}}))
		}
	}
	for _, c := range [][3]int{{most, 1, most}, {-most, -1, -most}, {most, most, most}, {-most, -most, -most}, {most - 1, 1, most}, {1 - most, -1, -most}, {most, -most, 0}} {
		got := impl.ScoresBoth([]impl.Score{{Text: "a", Num: c[0]}}, []impl.Score{{Text: "a", Num: c[1]}})
		if len(got) != 1 || got[0].Num != c[2] {
			t.Errorf("%d and %d: %v", c[0], c[1], got)
		}
	}
}

// Both have as many as there may be: all of them are told.
func TestP53ScoresOfFullLists(t *testing.T) {
	a, b := manyScores(16), []impl.Score{}
	for i := range 16 {
		b = append(b, impl.Score{Text: "u" + string(rune('A'+i)), Num: i - 8})
	}
	checkTogether(t, a, b)
	if got := impl.ScoresAny(a, b); len(got) != 32 {
		t.Errorf("%d texts", len(got))
	}
	if got := impl.ScoresBoth(a, b); len(got) != 0 {
		t.Errorf("%v", got)
	}
	if got := impl.ScoresBoth(a, a); len(got) != 16 {
		t.Errorf("%v", got)
	}
}

func TestP53ScoresThatAreNotOk(t *testing.T) {
	for _, wrong := range wrongScores() {
		for _, other := range [][]impl.Score{nil, {}, {{Text: "a", Num: 1}}, manyScores(16), wrong} {
			for _, got := range [][]impl.Score{impl.ScoresAny(wrong, other), impl.ScoresAny(other, wrong), impl.ScoresBoth(wrong, other), impl.ScoresBoth(other, wrong)} {
				if len(got) != 0 {
					t.Fatalf("%v and %v: %v", wrong, other, got)
				}
			}
		}
	}
}

// moved is ListMove as the document tells it.
func moved(a []string, b []string, fromFront bool, toFront bool) ([]string, []string, bool) {
	if !listIsOk(a) || len(a) == 0 {
		return a, b, false
	}
	at := len(a) - 1
	if fromFront {
		at = 0
	}
	more, ok := pushed(b, toFront, a[at:at+1])
	if !ok {
		return a, b, false
	}
	return slices.Concat(a[:at], a[at+1:]), more, true
}

func checkMove(t *testing.T, a []string, b []string) {
	t.Helper()
	for _, fromFront := range []bool{false, true} {
		for _, toFront := range []bool{false, true} {
			left, more, fine := moved(a, b, fromFront, toFront)
			x, y, ok := impl.ListMove(a, b, fromFront, toFront)
			if ok != fine || !slices.Equal(x, left) || !slices.Equal(y, more) {
				t.Fatalf("%q to %q, %v to %v: %q, %q, %v", a, b, fromFront, toFront, x, y, ok)
			}
			if !ok {
				continue
			}
			if back, was, ok := impl.ListMove(y, x, toFront, fromFront); !ok || !slices.Equal(back, b) || !slices.Equal(was, a) {
				t.Fatalf("%q to %q, %v to %v, and back: %q, %q, %v", a, b, fromFront, toFront, was, back, ok)
			}
		}
	}
}

// P54: a text that is moved is in the other list, and all others stay.
func TestP54ListMove(t *testing.T) {
	c := chance(206)
	for range 3000 {
		checkMove(t, anyTexts(c, 16), anyTexts(c, 16))
	}
}

func TestP54ListMoveAtItsLimits(t *testing.T) {
	for size := range 18 {
		for other := range 18 {
			checkMove(t, many(size), many(other))
		}
		same := many(size)
		checkMove(t, same, same)
	}
	checkMove(t, []string{""}, []string{longest})
	checkMove(t, []string{longest}, nil)
	for _, wrong := range wrongLists() {
		for _, other := range [][]string{nil, {}, {"a"}, many(15), many(16), wrong} {
			checkMove(t, wrong, other)
			checkMove(t, other, wrong)
		}
	}
}

// isGoNumber says the same as IntGet, by what Go reads.
func isGoNumber(text string) bool {
	_, ok := numberByGo(text)
	return ok
}

// sorted is ListSort as the document tells it: the least that is left is taken, one by one.
func sorted(list []string, numbers bool, down bool) ([]string, bool) {
	if !listIsOk(list) {
		return nil, false
	}
	order := strings.Compare
	if numbers {
		if slices.ContainsFunc(list, func(text string) bool { return !isGoNumber(text) }) {
			return list, false
		}
		order = func(a string, b string) int {
			n, _ := numberByGo(a)
			m, _ := numberByGo(b)
			return cmp.Compare(n, m)
		}
	}
	left, out := slices.Clone(list), []string{}
	for len(left) > 0 {
		least := 0
		for i, text := range left {
			if !down && order(text, left[least]) < 0 || down && order(text, left[least]) > 0 {
				least = i
			}
		}
		out = append(out, left[least])
		left = slices.Delete(left, least, least+1)
	}
	return out, true
}

func checkSort(t *testing.T, list []string) {
	t.Helper()
	for _, numbers := range []bool{false, true} {
		up, ok := impl.ListSort(list, numbers, false)
		down, fine := impl.ListSort(list, numbers, true)
		want, can := sorted(list, numbers, false)
		turned, _ := sorted(list, numbers, true)
		if ok != can || fine != can || !slices.Equal(up, want) || !slices.Equal(down, turned) {
			t.Fatalf("%q, %v: %q, %v, and down %q, %v", list, numbers, up, ok, down, fine)
		}
		if !ok {
			continue
		}
		again, _ := impl.ListSort(up, numbers, false)
		round, _ := impl.ListSort(up, numbers, true)
		slices.Reverse(round)
		if !slices.Equal(again, up) || !slices.Equal(round, up) {
			t.Fatalf("%q, %v: again %q, turned %q", list, numbers, again, round)
		}
		for _, text := range list {
			if a, b := count(list, text), count(up, text); a != b || len(up) != len(list) {
				t.Fatalf("%q, %v: %q has %q %d times, not %d", list, numbers, up, text, b, a)
			}
		}
	}
}

func count(list []string, text string) int {
	n := 0
	for _, one := range list {
		if one == text {
			n++
		}
	}
	return n
}

// P55: texts in order are the same texts.
func TestP55ListSort(t *testing.T) {
	c := chance(207)
	for range 3000 {
		checkSort(t, anyTexts(c, 16))
		nums := make([]string, c.IntN(17))
		for i := range nums {
			nums[i] = strconv.Itoa(c.IntN(40) - 20)
			if c.IntN(3) == 0 {
				nums[i] = strconv.Itoa(anyNum(c))
			}
			if c.IntN(100) == 0 {
				nums[i] = anyFigures(c)
			}
		}
		checkSort(t, nums)
	}
}

func TestP55ListSortAtItsLimits(t *testing.T) {
	for _, list := range [][]string{
		nil, {}, {""}, {"5"}, {"5", "5", "5"}, {"10", "9", "-1"}, {"-2", "-10", "-1", "0", "-1"}, {"1000000000", "-1000000000", "999999999"},
		{"1000000001"}, {"1", "-1000000001"}, {"01"}, {"-0", "0"}, {"1", "x"}, {"x", "1"}, {"1", ""}, {"1 "}, {"+1"},
		{"b", "", "ab", "a", "B", "\xff", "\u00e9", "a"}, {longest, longest[:39], "1"}, many(15), many(16),
	} {
		checkSort(t, list)
	}
	for at := range 16 {
		list := slices.Repeat([]string{"7"}, 16)
		list[at] = "six"
		checkSort(t, list)
		list[at] = "6"
		checkSort(t, list)
	}
	if got, ok := impl.ListSort([]string{"10", "9", "-1", "9"}, true, true); !ok || !slices.Equal(got, []string{"10", "9", "9", "-1"}) {
		t.Errorf("%q, %v", got, ok)
	}
	for _, wrong := range append(wrongLists(), slices.Repeat([]string{"1"}, 17), []string{"1", strings.Repeat("1", 41)}) {
		checkSort(t, wrong)
	}
}

// P56: a place that is told has the text, and none ahead does.
func TestP56ListAt(t *testing.T) {
	c := chance(208)
	check := func(list []string, text string) {
		t.Helper()
		at := impl.ListAt(list, text)
		if at < -1 || at >= len(list) || at < 0 && count(list, text) > 0 {
			t.Fatalf("%q in %q: %d", text, list, at)
		}
		if at >= 0 && (list[at] != text || count(list[:at], text) > 0) {
			t.Fatalf("%q in %q: %d", text, list, at)
		}
	}
	for range 5000 {
		list := anyTexts(c, 16)
		check(list, anyText(c))
		for _, text := range list {
			check(list, text)
		}
	}
	for size := range 17 {
		for i, text := range many(size) {
			if at := impl.ListAt(many(size), text); at != i {
				t.Errorf("%d of %d: %d", i, size, at)
			}
		}
		check(many(size), tooLong)
		check(many(size), "")
	}
	check([]string{longest, "", longest}, longest)
	for _, wrong := range wrongLists() {
		for _, text := range append(slices.Clone(wrong), "no such") {
			if at := impl.ListAt(wrong, text); at != -1 {
				t.Errorf("not ok, %q in %q: %d", text, wrong, at)
			}
		}
	}
}

// scanned is Scan as the document tells it, by all keys at once.
func scanned(b impl.Base, behind string, pattern string, count int) ([]string, string) {
	var above, keys []string
	for _, e := range b.Entries {
		if e.Key > behind {
			above = append(above, e.Key)
		}
	}
	next := ""
	if count < len(above) {
		above = above[:count]
		next = above[count-1]
	}
	for _, key := range above {
		if matchByTrying(pattern, key) {
			keys = append(keys, key)
		}
	}
	return keys, next
}

// checkScan is of a base that is ok, a pattern that is not too long, and a count of 1 at least.
func checkScan(t *testing.T, b impl.Base, behind string, pattern string, count int) {
	t.Helper()
	keys, next := scanned(b, behind, pattern, count)
	if got, on := impl.Scan(b, behind, pattern, count); !slices.Equal(got, keys) || on != next {
		t.Fatalf("%d keys as %q behind %q of %+v: %q, %q, not %q, %q", count, pattern, behind, b, got, on, keys, next)
	}
}

// P57: who scans on and on has all keys that are as the pattern, each once.
func TestP57Scan(t *testing.T) {
	c := chance(209)
	for range 600 {
		b := anyBase(c, 12)
		for range 8 {
			pattern, count := anyPattern(c), 1+c.IntN(14)
			for _, e := range b.Entries {
				checkScan(t, b, e.Key, pattern, count)
			}
			checkScan(t, b, anyText(c), pattern, count)
			var all []string
			behind, rounds := "", 0
			for rounds == 0 || behind != "" {
				keys, next := impl.Scan(b, behind, pattern, count)
				all, behind, rounds = append(all, keys...), next, rounds+1
			}
			if !slices.Equal(all, impl.BaseKeys(b, pattern)) || rounds > 13 {
				t.Fatalf("%q, %d at once, of %+v: %q in %d rounds", pattern, count, b, all, rounds)
			}
		}
	}
}

func TestP57ScanAtItsLimits(t *testing.T) {
	for size := range 13 {
		b := manyEntries(size, 3)
		for count := 1; count <= 14; count++ {
			for _, behind := range []string{"", "\x00", "t", "tA", "tAA", "tB", "tK", "tL", "tZ", longKey, tooLong, fullBits(90)} {
				for _, pattern := range []string{"*", "", "t?", "tB", "t[", "x*", "????????????", longestKey, "***********B", "tL"} {
					checkScan(t, b, behind, pattern, count)
				}
			}
		}
		checkScan(t, b, "", "*", math.MaxInt)
		for _, count := range []int{0, -1, -5, -most, math.MinInt} {
			checkNoScan(t, b, "", "*", count)
			checkNoScan(t, b, "tA", "*", count)
		}
		for _, pattern := range []string{longKey, "*************", "?????????????", tooLong} {
			checkNoScan(t, b, "", pattern, 1)
			checkNoScan(t, b, "", pattern, 50)
		}
	}
	for _, b := range wrongBases() {
		checkNoScan(t, b, "", "*", 1)
		checkNoScan(t, b, "a", "*", 50)
	}
}

func checkNoScan(t *testing.T, b impl.Base, behind string, pattern string, count int) {
	t.Helper()
	if got, next := impl.Scan(b, behind, pattern, count); len(got) != 0 || next != "" {
		t.Fatalf("%d keys as %q behind %q of %+v: %q, %q", count, pattern, behind, b, got, next)
	}
}

// The keys of a part in which none is as the pattern are gone by: the scan does not end there.
func TestP57ScanOverOthers(t *testing.T) {
	b := manyEntries(12, 0)
	if keys, next := impl.Scan(b, "", "tL", 5); len(keys) != 0 || next != "tE" {
		t.Errorf("%q, %q", keys, next)
	}
	if keys, next := impl.Scan(b, "tE", "tL", 7); !slices.Equal(keys, []string{"tL"}) || next != "" {
		t.Errorf("%q, %q", keys, next)
	}
	if keys, next := impl.Scan(b, "tE", "tL", 6); len(keys) != 0 || next != "tK" {
		t.Errorf("%q, %q", keys, next)
	}
}
