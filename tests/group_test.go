package tests

import (
	"math"
	"math/rand/v2"
	"slices"
	"testing"

	"loop.example/quincunx/impl"
)

func checkGroupNew(t *testing.T, s impl.Stream, name string, from impl.Id) (impl.Stream, bool) {
	t.Helper()
	want, fine := modelNew(s, name, from)
	got, ok := impl.GroupNew(s, name, from)
	checkStream(t, "GroupNew", s, got, want)
	if ok != fine {
		t.Fatalf("%q from %v of %+v: %v", name, from, s, ok)
	}
	return got, ok
}

func checkGroupRead(t *testing.T, s impl.Stream, name string, who string, now int, count int) (impl.Stream, []impl.Item) {
	t.Helper()
	want, items := modelRead(s, name, who, now, count)
	got, told := impl.GroupRead(s, name, who, now, count)
	checkStream(t, "GroupRead", s, got, want)
	if !sameItems(told, items) {
		t.Fatalf("%d of %q for %q of %+v: %+v, not %+v", count, name, who, s, told, items)
	}
	return got, told
}

func checkGroupDone(t *testing.T, s impl.Stream, name string, ids []impl.Id) (impl.Stream, int) {
	t.Helper()
	want, wanted := modelDone(s, name, ids)
	got, n := impl.GroupDone(s, name, ids)
	checkStream(t, "GroupDone", s, got, want)
	if n != wanted {
		t.Fatalf("%v of %q of %+v: %d, not %d", ids, name, s, n, wanted)
	}
	return got, n
}

func checkGroupTake(t *testing.T, s impl.Stream, name string, who string, now int, idle int) (impl.Stream, []impl.Item) {
	t.Helper()
	want, items := modelTake(s, name, who, now, idle)
	got, told := impl.GroupTake(s, name, who, now, idle)
	checkStream(t, "GroupTake", s, got, want)
	if !sameItems(told, items) {
		t.Fatalf("of %q for %q at %d, idle %d, of %+v: %+v, not %+v", name, who, now, idle, s, told, items)
	}
	return got, told
}

func checkGroupWaits(t *testing.T, s impl.Stream, name string, who string) []impl.Wait {
	t.Helper()
	got := impl.GroupWaits(s, name, who)
	if want := modelWaits(s, name, who); !slices.Equal(got, want) {
		t.Fatalf("%q of %q of %+v: %+v, not %+v", who, name, s, got, want)
	}
	return got
}

func anyName(c *rand.Rand) string {
	return []string{"a", "g", "g", longestKey, "no such"}[c.IntN(5)]
}

// P63: a group is given each item once, in order.
func TestP63GroupRead(t *testing.T) {
	c := chance(221)
	for range 4000 {
		s, name, who, now := anyStream(c), anyName(c), anyWho(c), anyAt(c)
		was := groupNamed(s, name)
		got, told := checkGroupRead(t, s, name, who, now, c.IntN(20)-2)
		waits := impl.GroupWaits(got, name, "")
		for i, item := range told {
			if !before(was.Last, item.Id) || i > 0 && !before(told[i-1].Id, item.Id) {
				t.Fatalf("%+v: %+v", s, told)
			}
			if !slices.Contains(waits, impl.Wait{Id: item.Id, Who: who, At: now, Times: 1}) {
				t.Fatalf("%+v: %+v, waited for %+v", s, told, waits)
			}
		}
		if len(waits) != len(was.Waits)+len(told) {
			t.Fatalf("%+v: %+v", s, waits)
		}
		_, more := checkGroupRead(t, got, name, anyWho(c), anyAt(c), 20)
		for _, item := range more {
			if slices.Contains(idsOfItems(told), item.Id) {
				t.Fatalf("%+v: %v is given again", s, item.Id)
			}
		}
	}
}

// Read on and on, by one at once or by more, the items are all that stand above where the group is.
func TestP63GroupReadOnAndOn(t *testing.T) {
	for size := range 17 {
		for count := 1; count <= 5; count++ {
			s := withGroupOf(manyItems(size), "g", impl.Id{})
			var all []impl.Item
			for range 17 {
				next, told := checkGroupRead(t, s, "g", []string{"ann", "bob"}[len(all)%2], 20, count)
				all, s = append(all, told...), next
			}
			if !sameItems(all, s.Items) || groupNamed(s, "g").Last != s.Last {
				t.Fatalf("%d by %d: %+v", size, count, all)
			}
		}
	}
}

// readFor is a stream of 16 items above all that the group "g" waits for, so many.
func readFor(waits int) impl.Stream {
	var list []impl.Wait
	for i := range waits {
		list = append(list, waitFor(id(3, i)))
	}
	return withGroupOf(manyItems(16), "g", id(9, 9), list...)
}

func TestP63GroupReadWithRoom(t *testing.T) {
	for waits := range 17 {
		for count := range 18 {
			got, told := checkGroupRead(t, readFor(waits), "g", "bob", 20, count)
			if len(told) != min(count, 16-waits) || len(impl.GroupWaits(got, "g", "")) != waits+len(told) {
				t.Fatalf("%d, %d are waited for: %d", count, waits, len(told))
			}
			last := id(9, 9)
			if len(told) > 0 {
				last = told[len(told)-1].Id
			}
			if g := groupNamed(got, "g"); g.Last != last {
				t.Fatalf("%d, %d are waited for: come to %v", count, waits, g.Last)
			}
		}
	}
	done, _ := impl.GroupDone(readFor(16), "g", []impl.Id{id(3, 15)})
	if _, told := checkGroupRead(t, done, "g", "bob", 20, 9); len(told) != 1 || told[0].Id != id(10, 0) {
		t.Errorf("%+v", told)
	}
}

func TestP63GroupReadOfOthers(t *testing.T) {
	same := func(s impl.Stream, name string, who string, now int, count int) {
		t.Helper()
		if got, told := checkGroupRead(t, s, name, who, now, count); !sameStream(got, s) || len(told) != 0 {
			t.Fatalf("%q of %q at %d of %+v: %+v, %+v", who, name, now, s, got, told)
		}
	}
	s := readFor(3)
	for _, count := range []int{0, -1, -most, math.MinInt} {
		same(s, "g", "bob", 20, count)
	}
	for _, name := range []string{"", "f", "gg", "G", "g\x00", longestKey, longKey} {
		same(s, name, "bob", 20, 9)
	}
	for _, who := range wrongKeys {
		same(s, "g", who, 20, 9)
	}
	for _, now := range wrongTimes {
		same(s, "g", "bob", now, 9)
	}
	for _, now := range []int{0, lastTime} {
		if _, told := checkGroupRead(t, s, "g", longestKey, now, math.MaxInt); len(told) != 13 {
			t.Errorf("at %d: %d", now, len(told))
		}
	}
	for _, s := range wrongStreams() {
		for _, name := range []string{"g", "a", ""} {
			if got, told := checkGroupRead(t, s, name, "bob", 20, 9); !isNoStream(got) || len(told) != 0 {
				t.Fatalf("%+v: %+v, %+v", s, got, told)
			}
		}
	}
}

// P64: what is done is waited for no more.
func TestP64GroupDone(t *testing.T) {
	c := chance(222)
	for range 4000 {
		s, name := anyStream(c), anyName(c)
		ids := anyIds(c, 12, lastId)
		ids = append(ids, ids[:c.IntN(len(ids)+1)]...)
		c.Shuffle(len(ids), func(i int, j int) { ids[i], ids[j] = ids[j], ids[i] })
		got, n := checkGroupDone(t, s, name, ids)
		left := impl.GroupWaits(got, name, "")
		if len(left) != len(groupNamed(s, name).Waits)-n || slices.ContainsFunc(left, func(w impl.Wait) bool { return slices.Contains(ids, w.Id) }) {
			t.Fatalf("%v of %+v: %+v", ids, s, left)
		}
		if again, n := checkGroupDone(t, got, name, ids); n != 0 || !sameStream(again, got) {
			t.Fatalf("%v of %+v, again: %d", ids, s, n)
		}
		if !sameItems(got.Items, s.Items) || got.Last != s.Last || groupNamed(got, name).Last != groupNamed(s, name).Last {
			t.Fatalf("%v of %+v: %+v", ids, s, got)
		}
	}
}

func TestP64GroupDoneAtItsLimits(t *testing.T) {
	s := waitingStream(16, 16)
	all := idsOfItems(s.Items)
	for _, c := range []struct {
		ids  []impl.Id
		want int
	}{
		{nil, 0}, {[]impl.Id{}, 0}, {all, 16}, {append(all, all...), 16}, {all[3:4], 1}, {[]impl.Id{all[3], all[3], all[3]}, 1}, {[]impl.Id{all[5], all[1], all[5]}, 2},
		{wrongIds, 0}, {append(wrongIds, all[0]), 1}, {[]impl.Id{{}, lastId, id(10, 2), id(9, 0)}, 0}, {slices.Repeat(all[7:9], 500), 2},
	} {
		if _, n := checkGroupDone(t, s, "g", c.ids); n != c.want {
			t.Errorf("%v: %d", c.ids, n)
		}
		for _, name := range []string{"", "f", "gg", longKey} {
			if got, n := checkGroupDone(t, s, name, c.ids); n != 0 || !sameStream(got, s) {
				t.Errorf("%q, %v: %d", name, c.ids, n)
			}
		}
		for _, wrong := range wrongStreams() {
			if got, n := checkGroupDone(t, wrong, "g", append(c.ids, id(10, 0))); n != 0 || !isNoStream(got) {
				t.Fatalf("%+v: %d, %+v", wrong, n, got)
			}
		}
	}
	three := withGroupOf(withGroupOf(s, "a", s.Last, waitFor(all[0])), "h", s.Last, waitFor(all[0]))
	if got, n := checkGroupDone(t, three, "h", all); n != 1 || len(impl.GroupWaits(got, "a", "")) != 1 || len(impl.GroupWaits(got, "g", "")) != 16 {
		t.Errorf("%d: %+v", n, got)
	}
}

// P65: what somebody had for too long is given to another one, and nothing else.
func TestP65GroupTake(t *testing.T) {
	c := chance(223)
	for range 4000 {
		s, name, who, now, idle := anyStream(c), anyName(c), anyWho(c), anyAt(c), c.IntN(12)
		got, told := checkGroupTake(t, s, name, who, now, idle)
		was := impl.GroupWaits(s, name, "")
		for _, w := range impl.GroupWaits(got, name, "") {
			if w.Who != who && now-w.At >= idle {
				t.Fatalf("%q at %d, idle %d, of %+v: %+v", who, now, idle, s, w)
			}
			if !slices.Contains(was, w) && !slices.Contains(idsOfItems(told), w.Id) {
				t.Fatalf("%q at %d, idle %d, of %+v: %+v is another one", who, now, idle, s, w)
			}
		}
		for _, item := range told {
			own := impl.GroupWaits(got, name, who)
			if !slices.Contains(idsOfWaits(own), item.Id) || !slices.Contains(idsOfWaits(was), item.Id) {
				t.Fatalf("%q at %d, idle %d, of %+v: %v is told", who, now, idle, s, item.Id)
			}
		}
		if again, more := checkGroupTake(t, got, name, who, now, idle); len(more) != 0 || !sameStream(again, got) {
			t.Fatalf("%q at %d, idle %d, of %+v, again: %+v", who, now, idle, s, more)
		}
	}
}

// takeAt is what "cid" is told at 100, idle so long, of a group that waits since a time; and what is waited for then.
func takeAt(t *testing.T, idle int, at int, times int) (int, impl.Wait) {
	t.Helper()
	s := withGroupOf(manyItems(1), "g", id(10, 0), impl.Wait{Id: id(10, 0), Who: "ann", At: at, Times: times})
	got, told := checkGroupTake(t, s, "g", "cid", 100, idle)
	waits := impl.GroupWaits(got, "g", "")
	if len(waits) != 1 {
		t.Fatalf("%+v", waits)
	}
	return len(told), waits[0]
}

func TestP65GroupTakeAtItsLimits(t *testing.T) {
	for i, c := range []struct {
		idle  int
		at    int
		times int
		taken bool
	}{
		{0, 100, 1, true}, {0, 101, 1, false}, {1, 100, 1, false}, {1, 99, 1, true}, {100, 0, 7, true}, {101, 0, 7, false}, {50, 50, 2, true}, {51, 50, 2, false}, {49, 50, 2, true},
		{0, lastTime, 1, false}, {most, 0, 1, false}, {math.MaxInt, 0, 1, false}, {-1, 0, 1, false}, {-1, 100, 1, false}, {math.MinInt, 0, 1, false}, {9, 5, most - 1, true}, {9, 5, most, true},
	} {
		want := impl.Wait{Id: id(10, 0), Who: "ann", At: c.at, Times: c.times}
		if c.taken {
			want = impl.Wait{Id: id(10, 0), Who: "cid", At: 100, Times: min(c.times+1, most)}
		}
		if n, w := takeAt(t, c.idle, c.at, c.times); w != want || (n == 1) != c.taken {
			t.Errorf("%d: %d, %+v", i, n, w)
		}
	}
}

// An item that is gone while it is waited for is not told, and not waited for any more; but for who has it, and for who had it not long.
func TestP65GroupTakeOfItemsThatAreGone(t *testing.T) {
	s := waitingStream(16, 16)
	s, _ = impl.StreamTrim(s, 8)
	s, _ = impl.StreamDrop(s, s.Last)
	ann, bob := idsOfWaits(impl.GroupWaits(s, "g", "ann")), idsOfWaits(impl.GroupWaits(s, "g", "bob"))
	got, told := checkGroupTake(t, s, "g", "bob", 200, 9)
	left := idsOfWaits(impl.GroupWaits(got, "g", ""))
	for _, one := range slices.Concat(ann, bob) {
		stands, his := slices.Contains(idsOfItems(s.Items), one), slices.Contains(bob, one)
		if slices.Contains(idsOfItems(told), one) != (stands && !his) || slices.Contains(left, one) != (stands || his) {
			t.Errorf("%v: told %v, left %v", one, idsOfItems(told), left)
		}
	}
	got, told = checkGroupTake(t, s, "g", "cid", 200, 200-20-1)
	if len(told) != 0 || len(impl.GroupWaits(got, "g", "")) != 14 {
		t.Errorf("of two, that are gone: %+v, %+v", told, got)
	}
	empty, _ := impl.StreamTrim(s, 0)
	got, told = checkGroupTake(t, empty, "g", "cid", 200, 0)
	if len(told) != 0 || len(impl.GroupWaits(got, "g", "")) != 0 {
		t.Errorf("of none: %+v, %+v", told, got)
	}
}

func TestP65GroupTakeOfOthers(t *testing.T) {
	same := func(s impl.Stream, name string, who string, now int, idle int) {
		t.Helper()
		if got, told := checkGroupTake(t, s, name, who, now, idle); !sameStream(got, s) || len(told) != 0 {
			t.Fatalf("%q of %q at %d, idle %d, of %+v: %+v, %+v", who, name, now, idle, s, got, told)
		}
	}
	s := waitingStream(16, 12)
	for _, idle := range []int{-1, -5, -most, math.MinInt} {
		same(s, "g", "cid", 200, idle)
	}
	for _, name := range []string{"", "f", "gg", longestKey, longKey} {
		same(s, name, "cid", 200, 0)
	}
	for _, who := range wrongKeys {
		same(s, "g", who, 200, 0)
	}
	for _, now := range wrongTimes {
		same(s, "g", "cid", now, 0)
	}
	same(s, "g", "cid", 0, 0)
	for _, s := range wrongStreams() {
		for _, name := range []string{"g", "a", ""} {
			if got, told := checkGroupTake(t, s, name, "cid", 200, 0); !isNoStream(got) || len(told) != 0 {
				t.Fatalf("%+v: %+v, %+v", s, got, told)
			}
		}
	}
}

// P66: all that a group waits for is what each of its own has.
func TestP66GroupWaits(t *testing.T) {
	c := chance(224)
	for range 4000 {
		s, name := anyStream(c), anyName(c)
		all := checkGroupWaits(t, s, name, "")
		if !slices.Equal(all, groupNamed(s, name).Waits) {
			t.Fatalf("%+v: %+v", s, all)
		}
		var each []impl.Wait
		for _, who := range having(whoOf(all), func(string) bool { return true }) {
			own := checkGroupWaits(t, s, name, who)
			if len(own) == 0 || slices.ContainsFunc(own, func(w impl.Wait) bool { return w.Who != who }) {
				t.Fatalf("%q of %+v: %+v", who, s, own)
			}
			each = append(each, own...)
		}
		if len(each) != len(all) || slices.ContainsFunc(all, func(w impl.Wait) bool { return !slices.Contains(each, w) }) {
			t.Fatalf("%+v: %+v, not %+v", s, each, all)
		}
	}
}

func whoOf(waits []impl.Wait) []string {
	var out []string
	for _, w := range waits {
		out = append(out, w.Who)
	}
	return out
}

func TestP66GroupWaitsAtItsLimits(t *testing.T) {
	s := waitingStream(16, 16)
	for _, c := range []struct {
		name string
		who  string
		want int
	}{{"g", "", 16}, {"g", "ann", 11}, {"g", "bob", 5}, {"g", "cid", 0}, {"g", "an", 0}, {"g", "annn", 0}, {"g", longKey, 0}, {"g", tooLong, 0}, {"", "", 0}, {"f", "", 0}, {"f", "ann", 0}, {"gg", "ann", 0}, {longKey, "", 0}} {
		if got := checkGroupWaits(t, s, c.name, c.who); len(got) != c.want {
			t.Errorf("%q of %q: %d", c.who, c.name, len(got))
		}
	}
	for _, s := range wrongStreams() {
		for _, who := range []string{"", "ann"} {
			if got := checkGroupWaits(t, s, "g", who); len(got) != 0 {
				t.Fatalf("%+v: %+v", s, got)
			}
		}
	}
}

// P67: a group that is new has nothing to wait for, and is given what is behind where it begins.
func TestP67GroupNew(t *testing.T) {
	c := chance(225)
	for range 4000 {
		s, from := anyStream(c), anyId(c)
		name := []string{"a", "b", "g", "\x00", longestKey}[c.IntN(5)]
		got, ok := checkGroupNew(t, s, name, from)
		if !ok {
			continue
		}
		if waits := impl.GroupWaits(got, name, ""); len(waits) != 0 {
			t.Fatalf("%q from %v of %+v: %+v", name, from, s, waits)
		}
		above := slices.DeleteFunc(slices.Clone(s.Items), func(i impl.Item) bool { return !before(from, i.Id) })
		if _, told := checkGroupRead(t, got, name, "ann", 5, 20); !sameItems(told, above) {
			t.Fatalf("%q from %v of %+v: %+v", name, from, s, told)
		}
		for _, g := range s.Groups {
			if !sameGroup(groupNamed(got, g.Name), g) {
				t.Fatalf("%q from %v of %+v: %+v", name, from, s, got)
			}
		}
	}
}

func TestP67GroupNewAtItsLimits(t *testing.T) {
	s := manyItems(4) // its Last is 11-1
	for _, c := range []struct {
		name string
		from impl.Id
		ok   bool
	}{
		{"h", impl.Id{}, true}, {"h", id(11, 1), true}, {"h", id(11, 2), false}, {"h", id(12, 0), false}, {"h", lastId, false}, {"h", id(10, 7), true}, {"h", id(10, most), true}, {"h", id(10, most+1), false},
		{"h", id(-1, 0), false}, {"h", id(5, -1), false}, {"", impl.Id{}, false}, {longestKey, impl.Id{}, true}, {longKey, impl.Id{}, false}, {"\xff", impl.Id{}, true},
	} {
		if _, ok := checkGroupNew(t, s, c.name, c.from); ok != c.ok {
			t.Errorf("%q from %v: %v", c.name, c.from, ok)
		}
	}
	for i, name := range []string{"m", "c", "x", "d"} {
		next, ok := checkGroupNew(t, s, name, id(10, i))
		if ok != (i < 3) {
			t.Errorf("group %d: %v", i, ok)
		}
		for _, from := range []impl.Id{{}, id(10, i), id(11, 1)} {
			if _, again := checkGroupNew(t, next, name, from); again {
				t.Errorf("%q from %v is there twice", name, from)
			}
		}
		s = next
	}
	if _, ok := checkGroupNew(t, waitingStream(4, 4), "g", impl.Id{}); ok {
		t.Error("a group that waits is new again")
	}
	for _, one := range wrongIds {
		checkGroupNew(t, manyItems(4), "h", one)
	}
	for _, s := range wrongStreams() {
		for _, name := range []string{"g", "h", ""} {
			if got, ok := checkGroupNew(t, s, name, impl.Id{}); !isNoStream(got) || ok {
				t.Fatalf("%+v: %+v, %v", s, got, ok)
			}
		}
	}
}

// anyStreamStep does one thing to a stream, held against the model.
func anyStreamStep(t *testing.T, c *rand.Rand, s impl.Stream, now int) impl.Stream {
	t.Helper()
	name, who := []string{"a", "b", "g", "h"}[c.IntN(4)], []string{"ann", "bob", "cid"}[c.IntN(3)]
	switch c.IntN(12) {
	case 0:
		s, _ = checkGroupNew(t, s, name, id(now-c.IntN(4), c.IntN(2)))
	case 1, 2:
		s, _ = checkGroupRead(t, s, name, who, now, c.IntN(6)-1)
	case 3:
		s, _ = checkGroupTake(t, s, name, who, now-c.IntN(2), c.IntN(8)-1)
	case 4:
		waits := checkGroupWaits(t, s, name, "")
		s, _ = checkGroupDone(t, s, name, append(idsOfWaits(waits[:c.IntN(len(waits)+1)]), id(now, 0)))
	case 5:
		s, _ = checkStreamTrim(t, s, c.IntN(18)-1)
	case 6:
		if len(s.Items) > 0 {
			one := s.Items[c.IntN(len(s.Items))].Id
			checkStreamDrop(t, s, one)
			s, _ = impl.StreamDrop(s, one)
		}
	case 7:
		checkGroupWaits(t, s, name, who)
		checkStreamRange(t, s, id(now-5, 0), id(now, 1), c.IntN(5))
	default:
		s, _, _ = checkStreamAdd(t, s, now-c.IntN(3), fieldsFor(who))
	}
	return s
}

// Whatever happens to a stream, one behind the other, it is as the model has it.
func TestStreamsAsTheyGo(t *testing.T) {
	c := chance(226)
	for range 100 {
		var s impl.Stream
		now := 5
		for range 200 {
			now += c.IntN(3) / 2
			s = anyStreamStep(t, c, s, now)
		}
		if before(s.Last, id(6, 0)) {
			t.Fatalf("%+v", s)
		}
	}
}
