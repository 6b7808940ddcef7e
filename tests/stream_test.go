package tests

import (
	"math"
	"math/rand/v2"
	"slices"
	"strconv"
	"testing"

	"loop.example/quincunx/impl"
)

// someIds are all that may be at the limits, and around some.
func someIds() []impl.Id {
	ids := []impl.Id{{}, lastId, {Time: lastTime}, {Num: most}, {Time: lastTime, Num: most - 1}, {Time: lastTime - 1, Num: most}, {Num: most - 1}}
	for time := range 12 {
		for num := range 12 {
			ids = append(ids, id(time, num))
		}
	}
	return ids
}

// P58: an id is read back from its text.
func TestP58IdGet(t *testing.T) {
	for _, one := range someIds() {
		text := impl.IdPut(one)
		if text != strconv.Itoa(one.Time)+"-"+strconv.Itoa(one.Num) {
			t.Fatalf("%v: %q", one, text)
		}
		if got, ok := impl.IdGet(text); got != one || !ok {
			t.Fatalf("%v, of %q: %v, %v", one, text, got, ok)
		}
	}
	for _, one := range wrongIds {
		if text := impl.IdPut(one); text != "" {
			t.Errorf("%v may not be: %q", one, text)
		}
	}
	if text := impl.IdPut(lastId); text != "1000000-1000000000" {
		t.Error(text)
	}
}

// P58: what is read is just what would be written.
func TestP58IdGetOfOthers(t *testing.T) {
	wrong := []string{"1000001-1", "1000000-1000000001", "1-10000000000", "5--1", "-5-1", "-1-0", "5-+1", "5-1-", "5-1-1", "--", "5\x2d", "5\u20101", "5- 1", " 5-1", "5-1\r\n", "5-1\x00", "5_1", "9223372036854775808-0", "0-18446744073709551616"}
	for _, text := range append(textsOver("05-1x", 5), wrong...) {
		got, ok := impl.IdGet(text)
		if ok != (impl.IdPut(got) == text) || !ok && got != (impl.Id{}) {
			t.Fatalf("%q: %v, %v", text, got, ok)
		}
		if ok && !idMayBe(got) {
			t.Fatalf("%q may not be: %v", text, got)
		}
	}
	for _, text := range wrong {
		if got, ok := impl.IdGet(text); ok {
			t.Errorf("%q: %v", text, got)
		}
	}
}

// P58: an id is ahead of another one just one way, or neither is of the same.
func TestP58IdLess(t *testing.T) {
	ids := slices.Concat(someIds()[:60], wrongIds)
	for _, a := range ids {
		for _, b := range ids {
			less, more := impl.IdLess(a, b), impl.IdLess(b, a)
			if less != before(a, b) || more != before(b, a) || (a == b) == (less != more) {
				t.Fatalf("%v and %v: %v, %v", a, b, less, more)
			}
		}
	}
	for i, pair := range [][2]impl.Id{{id(1, 9), id(2, 0)}, {id(2, 0), id(2, 1)}, {id(9, 0), id(10, 0)}, {id(9, 9), id(9, 10)}, {id(0, most), id(1, 0)}, {id(math.MinInt, 0), id(math.MaxInt, 0)}} {
		if !impl.IdLess(pair[0], pair[1]) || impl.IdLess(pair[1], pair[0]) {
			t.Errorf("%d: %v", i, pair)
		}
	}
}

func TestStreamOk(t *testing.T) {
	for _, s := range rightStreams() {
		if !impl.StreamOk(s) {
			t.Errorf("%+v is ok", s)
		}
	}
	for _, s := range wrongStreams() {
		if impl.StreamOk(s) {
			t.Errorf("%+v is not ok", s)
		}
	}
}

// spoiltStream is one in which something is another way, so that it is ok or not.
func spoiltStream(c *rand.Rand, s impl.Stream) impl.Stream {
	s = copyOfStream(s)
	one := anyId(c)
	if c.IntN(6) == 0 {
		one = wrongIds[c.IntN(len(wrongIds))]
	}
	switch c.IntN(5) {
	case 0:
		s.Last = one
	case 1:
		s.Items = append(s.Items, impl.Item{Id: one, Fields: fieldsFor("x")})
	case 2:
		if len(s.Items) > 1 {
			s.Items[c.IntN(len(s.Items))].Id = one
		}
	default:
		if len(s.Groups) > 0 {
			g := &s.Groups[c.IntN(len(s.Groups))]
			switch c.IntN(4) {
			case 0:
				g.Last = one
			case 1:
				g.Waits = append(g.Waits, waitFor(one))
			case 2:
				g.Name = []string{"", "a", "g", "b", longKey}[c.IntN(5)]
			case 3:
				if len(g.Waits) > 0 {
					w := &g.Waits[c.IntN(len(g.Waits))]
					w.Id, w.At, w.Times = one, c.IntN(3)-1, c.IntN(3)-1
				}
			}
		}
	}
	return s
}

func TestStreamOkAsTheDocumentTells(t *testing.T) {
	c := chance(211)
	ok := 0
	for range 20000 {
		s := anyStream(c)
		if !impl.StreamOk(s) {
			t.Fatalf("%+v is ok", s)
		}
		s = spoiltStream(c, s)
		if got := impl.StreamOk(s); got != modelStreamOk(s) {
			t.Fatalf("%+v: %v", s, got)
		} else if got {
			ok++
		}
	}
	if ok < 2000 || ok > 18000 {
		t.Errorf("%d of 20000 are ok", ok)
	}
}

func checkStream(t *testing.T, name string, of impl.Stream, got impl.Stream, want impl.Stream) {
	t.Helper()
	if !sameStream(got, want) {
		t.Fatalf("%s of %+v: %+v, not %+v", name, of, got, want)
	}
	if modelStreamOk(of) && !impl.StreamOk(got) {
		t.Fatalf("%s of %+v: not ok: %+v", name, of, got)
	}
}

func checkStreamAdd(t *testing.T, s impl.Stream, now int, fields []impl.Pair) (impl.Stream, impl.Id, bool) {
	t.Helper()
	want, wanted, fine := modelAdd(s, now, fields)
	got, one, ok := impl.StreamAdd(s, now, fields)
	checkStream(t, "StreamAdd", s, got, want)
	if one != wanted || ok != fine {
		t.Fatalf("%+v at %d with %v: %v, %v", s, now, fields, one, ok)
	}
	return got, one, ok
}

// P59: what is added stands behind all, under an id that never was.
func TestP59StreamAdd(t *testing.T) {
	c := chance(212)
	for range 4000 {
		s := anyStream(c)
		fields := anyFields(c, 16)
		got, one, ok := checkStreamAdd(t, s, anyAt(c), fields)
		if !ok {
			continue
		}
		if got.Last != one || !before(s.Last, one) || slices.Contains(idsOfItems(s.Items), one) || len(got.Items) != len(s.Items)+1 {
			t.Fatalf("%+v: %v, %+v", s, one, got)
		}
		if end := got.Items[len(s.Items)]; end.Id != one || !slices.Equal(end.Fields, fields) || !sameItems(got.Items[:len(s.Items)], s.Items) {
			t.Fatalf("%+v: %+v", s, got)
		}
	}
}

func TestP59StreamAddAtItsTimes(t *testing.T) {
	for i, c := range []struct {
		last impl.Id
		now  int
		want impl.Id
		ok   bool
	}{
		{id(0, 0), 0, id(0, 1), true}, {id(0, 0), 1, id(1, 0), true}, {id(5, 3), 4, id(5, 4), true}, {id(5, 3), 5, id(5, 4), true}, {id(5, 3), 6, id(6, 0), true}, {id(5, 3), 0, id(5, 4), true},
		{id(5, most), 6, id(6, 0), true}, {id(5, most), 5, id(0, 0), false}, {id(5, most), 0, id(0, 0), false}, {id(5, most-1), 5, id(5, most), true},
		{id(5, 3), lastTime, id(lastTime, 0), true}, {id(5, 3), lastTime + 1, id(0, 0), false}, {id(5, 3), -1, id(0, 0), false}, {id(lastTime, 0), lastTime, id(lastTime, 1), true},
		{lastId, lastTime, id(0, 0), false}, {lastId, 0, id(0, 0), false}, {id(lastTime, most-1), 3, lastId, true},
	} {
		for _, s := range []impl.Stream{{Last: c.last}, withGroupOf(impl.Stream{Last: c.last, Items: streamOf(impl.Id{}).Items}, "g", c.last, waitFor(c.last))} {
			if _, one, ok := checkStreamAdd(t, s, c.now, fieldsFor("x")); one != c.want || ok != c.ok {
				t.Errorf("%d: %v, %v", i, one, ok)
			}
		}
	}
	for _, now := range wrongTimes {
		checkStreamAdd(t, manyItems(3), now, fieldsFor("x"))
	}
}

func TestP59StreamAddAtItsLimits(t *testing.T) {
	for size := range 17 {
		_, _, ok := checkStreamAdd(t, manyItems(size), 50, fieldsFor("x"))
		if ok != (size < 16) {
			t.Errorf("to %d: %v", size, ok)
		}
	}
	for _, fields := range append(wrongFields(), nil, []impl.Pair{}) {
		if _, _, ok := checkStreamAdd(t, manyItems(3), 50, fields); ok {
			t.Errorf("%q", fields)
		}
	}
	for _, fields := range [][]impl.Pair{{{}}, manyFields(16), {{Field: longest, Text: longest}}} {
		if _, _, ok := checkStreamAdd(t, manyItems(3), 50, fields); !ok {
			t.Errorf("%q", fields)
		}
	}
	for _, s := range rightStreams() {
		checkStreamAdd(t, s, 7, fieldsFor("x"))
	}
	for _, s := range wrongStreams() {
		if got, one, ok := checkStreamAdd(t, s, 50, fieldsFor("x")); !isNoStream(got) || one != (impl.Id{}) || ok {
			t.Fatalf("%+v: %+v, %v, %v", s, got, one, ok)
		}
	}
}

func checkStreamRange(t *testing.T, s impl.Stream, from impl.Id, to impl.Id, count int) []impl.Item {
	t.Helper()
	got := impl.StreamRange(s, from, to, count)
	if want := modelRange(s, from, to, count); !sameItems(got, want) {
		t.Fatalf("%d from %v to %v of %+v: %+v, not %+v", count, from, to, s, got, want)
	}
	return got
}

// P60: items from an id to another one are just those between, the first so many.
func TestP60StreamRange(t *testing.T) {
	c := chance(213)
	for range 4000 {
		s := anyStream(c)
		checkStreamRange(t, s, anyId(c), anyId(c), c.IntN(20)-2)
		for _, i := range s.Items {
			checkStreamRange(t, s, i.Id, s.Last, 1+c.IntN(4))
			if one := checkStreamRange(t, s, i.Id, i.Id, 1); len(one) != 1 || !sameItem(one[0], i) {
				t.Fatalf("%v of %+v: %+v", i.Id, s, one)
			}
		}
	}
}

func TestP60StreamRangeAtItsLimits(t *testing.T) {
	for size := range 17 {
		s := manyItems(size)
		for count := -1; count <= size+1; count++ {
			if got := checkStreamRange(t, s, impl.Id{}, lastId, count); len(got) != min(size, max(0, count)) {
				t.Errorf("%d of %d: %d", count, size, len(got))
			}
		}
		for _, count := range []int{math.MinInt, -most, 0, 1, most, math.MaxInt} {
			for _, one := range wrongIds { // the document asks nothing of the two ids: what lies between is told
				checkStreamRange(t, s, one, lastId, count)
				checkStreamRange(t, s, impl.Id{}, one, count)
			}
			checkStreamRange(t, s, lastId, impl.Id{}, count)
			checkStreamRange(t, s, id(10, 1), id(10, 0), count)
			checkStreamRange(t, s, id(10, 1), id(11, 0), count)
			checkStreamRange(t, s, id(10, 2), id(10, most), count)
		}
	}
	for _, s := range wrongStreams() {
		if got := checkStreamRange(t, s, impl.Id{}, lastId, 20); len(got) != 0 {
			t.Fatalf("%+v: %+v", s, got)
		}
	}
}

func checkStreamTrim(t *testing.T, s impl.Stream, most int) (impl.Stream, int) {
	t.Helper()
	want, wanted := modelTrim(s, most)
	got, gone := impl.StreamTrim(s, most)
	checkStream(t, "StreamTrim to "+strconv.Itoa(most), s, got, want)
	if gone != wanted {
		t.Fatalf("%d of %+v: %d, not %d", most, s, gone, wanted)
	}
	return got, gone
}

// P61: the last so many items are left, and no id comes again.
func TestP61StreamTrim(t *testing.T) {
	c := chance(214)
	for range 4000 {
		s := anyStream(c)
		most := c.IntN(20) - 2
		got, gone := checkStreamTrim(t, s, most)
		if got.Last != s.Last || !sameItems(got.Items, s.Items[gone:]) || most >= 0 && len(got.Items) > most {
			t.Fatalf("%d of %+v: %+v", most, s, got)
		}
		if _, one, ok := checkStreamAdd(t, got, anyAt(c), fieldsFor("x")); ok && !before(s.Last, one) {
			t.Fatalf("%d of %+v: %v came again", most, s, one)
		}
	}
}

func TestP61StreamTrimAtItsLimits(t *testing.T) {
	for size := range 17 {
		for most := -3; most <= size+2; most++ {
			got, gone := checkStreamTrim(t, manyItems(size), most)
			left := min(size, most)
			if most < 0 {
				left = size
			}
			if len(got.Items) != left || gone != size-left {
				t.Errorf("%d of %d: %d, %d", most, size, len(got.Items), gone)
			}
		}
		for _, most := range []int{math.MinInt, math.MinInt + 10, -most, most, math.MaxInt} {
			if got, gone := checkStreamTrim(t, manyItems(size), most); len(got.Items) != size || gone != 0 {
				t.Errorf("%d of %d: %d, %d", most, size, len(got.Items), gone)
			}
		}
	}
	for _, s := range rightStreams() {
		for most := range 17 {
			checkStreamTrim(t, s, most)
		}
	}
	for _, s := range wrongStreams() {
		for _, most := range []int{-1, 0, 1, 16} {
			if got, gone := checkStreamTrim(t, s, most); !isNoStream(got) || gone != 0 {
				t.Fatalf("%+v: %+v, %d", s, got, gone)
			}
		}
	}
}

func checkStreamDrop(t *testing.T, s impl.Stream, one impl.Id) {
	t.Helper()
	want, there := modelDrop(s, one)
	got, was := impl.StreamDrop(s, one)
	checkStream(t, "StreamDrop of "+impl.IdPut(one), s, got, want)
	if was != there || was != slices.Contains(idsOfItems(s.Items), one) {
		t.Fatalf("%v of %+v: %v", one, s, was)
	}
	if left := impl.StreamRange(got, one, one, 1); len(left) != 0 {
		t.Fatalf("%v of %+v: %+v is there", one, s, left)
	}
	if got.Last != s.Last || !slices.EqualFunc(got.Groups, s.Groups, sameGroup) {
		t.Fatalf("%v of %+v: %+v", one, s, got)
	}
}

// P62: an item that was taken away is not there, and all others are.
func TestP62StreamDrop(t *testing.T) {
	c := chance(215)
	for range 3000 {
		s := anyStream(c)
		checkStreamDrop(t, s, anyId(c))
		for _, i := range s.Items {
			checkStreamDrop(t, s, i.Id)
		}
	}
	for _, s := range rightStreams() {
		for _, one := range slices.Concat(wrongIds, idsOfItems(s.Items), []impl.Id{{}, lastId, id(10, 2), id(9, 1)}) {
			checkStreamDrop(t, s, one)
		}
	}
	for _, s := range wrongStreams() {
		for _, one := range append(idsOfItems(s.Items), impl.Id{}, id(10, 0)) {
			if got, was := impl.StreamDrop(s, one); !isNoStream(got) || was {
				t.Fatalf("%v of %+v: %+v, %v", one, s, got, was)
			}
		}
	}
}

// The last item that is taken away leaves its id as Last: it does not come again.
func TestP62StreamDropOfTheLast(t *testing.T) {
	s := streamOf(id(5, 0), id(5, 1))
	s, _ = impl.StreamDrop(s, id(5, 1))
	if _, one, ok := impl.StreamAdd(s, 5, fieldsFor("x")); one != id(5, 2) || !ok {
		t.Errorf("%v, %v", one, ok)
	}
}
