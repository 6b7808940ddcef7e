package tests

import (
	"slices"
	"strconv"
	"testing"

	"loop.example/quincunx/impl"
)

func TestMemoryOfScoresTogether(t *testing.T) {
	c := chance(231)
	lists := append(wrongScores()[:8], nil, []impl.Score{}, manyScores(1), manyScores(15), manyScores(16), anyScores(c, 16), anyScores(c, 16))
	spare, over := impl.Score{Text: "spare", Num: 1}, impl.Score{Text: "over", Num: 77}
	for name, call := range map[string]func(a []impl.Score, b []impl.Score) []impl.Score{"ScoresAny": impl.ScoresAny, "ScoresBoth": impl.ScoresBoth} {
		for _, one := range lists {
			for _, other := range lists {
				checkMemory(t, name, call, withRoom(one, spare), withRoom(other, spare), over)
			}
			same := withRoom(one, spare)
			checkMemory(t, name+", twice the same", call, same, same, over)
		}
	}
}

func TestMemoryOfMoves(t *testing.T) {
	lists := append(wrongLists(), nil, []string{}, []string{"a"}, []string{"9", "10", "9"}, many(15), many(16))
	for _, fromFront := range []bool{false, true} {
		for _, toFront := range []bool{false, true} {
			for _, one := range lists {
				for _, other := range lists {
					a, b := withRoom(one, "spare"), withRoom(other, "spare")
					checkFresh(t, "ListMove", []any{a, b}, func() []any { x, y, ok := impl.ListMove(a, b, fromFront, toFront); return []any{x, y, ok} })
				}
				same := withRoom(one, "spare")
				x, y, _ := impl.ListMove(same, same, fromFront, toFront)
				checkAlone(t, "ListMove of a list to itself", x, y, same)
			}
		}
	}
}

func TestMemoryOfSorts(t *testing.T) {
	lists := append(wrongLists(), nil, []string{}, []string{"b"}, []string{"9", "10", "9", "-1"}, []string{"b", "a", "c"}, many(15), many(16))
	for _, list := range lists {
		list = withRoom(list, "0")
		checkFresh(t, "ListAt", []any{list}, func() []any { return []any{impl.ListAt(list, "a")} })
		for _, numbers := range []bool{false, true} {
			for _, down := range []bool{false, true} {
				checkFresh(t, "ListSort", []any{list}, func() []any { got, ok := impl.ListSort(list, numbers, down); return []any{got, ok} })
			}
		}
	}
}

func TestMemoryOfScans(t *testing.T) {
	for _, b := range someBases() {
		b = roomy(b)
		for _, pattern := range []string{"*", "t?", longKey} {
			for _, count := range []int{0, 1, 5, 50} {
				checkFresh(t, "Scan", []any{b}, func() []any { got, next := impl.Scan(b, "tA", pattern, count); return []any{got, next} })
			}
		}
	}
}

// roomyStream is a stream all of whose lists have spare room.
func roomyStream(s impl.Stream) impl.Stream {
	pair, wait := impl.Pair{Field: "spare", Text: "spare"}, impl.Wait{Who: "spare"}
	out := impl.Stream{Last: s.Last}
	for _, i := range s.Items {
		out.Items = append(out.Items, impl.Item{Id: i.Id, Fields: withRoom(i.Fields, pair)})
	}
	for _, g := range s.Groups {
		g.Waits = withRoom(g.Waits, wait)
		out.Groups = append(out.Groups, g)
	}
	out.Items = withRoom(out.Items, impl.Item{Fields: []impl.Pair{pair}})
	out.Groups = withRoom(out.Groups, impl.Group{Name: "spare", Waits: []impl.Wait{wait}})
	return out
}

func someStreams() []impl.Stream {
	c := chance(232)
	out := append(rightStreams(), wrongStreams()[:30]...)
	for range 30 {
		out = append(out, anyStream(c))
	}
	return out
}

func TestMemoryOfStreams(t *testing.T) {
	for _, s := range someStreams() {
		s = roomyStream(s)
		given := []any{s}
		checkFresh(t, "StreamOk", given, func() []any { return []any{impl.StreamOk(s)} })
		for _, count := range []int{-1, 0, 1, 3, 20} {
			checkFresh(t, "StreamTrim", given, func() []any { got, n := impl.StreamTrim(s, count); return []any{got, n} })
			checkFresh(t, "StreamRange", given, func() []any { return []any{impl.StreamRange(s, id(1, 1), lastId, count)} })
		}
		for _, one := range append(idsOfItems(s.Items), lastId, id(-1, 0)) {
			checkFresh(t, "StreamDrop", given, func() []any { got, was := impl.StreamDrop(s, one); return []any{got, was} })
		}
		for _, now := range []int{-1, 0, 30, lastTime} {
			for _, fields := range [][]impl.Pair{nil, fieldsFor("x"), manyFields(16), manyFields(17)} {
				fields = withRoom(fields, impl.Pair{Field: "spare"})
				checkFresh(t, "StreamAdd", []any{s, fields}, func() []any { got, one, ok := impl.StreamAdd(s, now, fields); return []any{got, one, ok} })
			}
		}
	}
}

func TestMemoryOfGroups(t *testing.T) {
	for _, s := range someStreams() {
		s = roomyStream(s)
		given := []any{s}
		ids := withRoom(append(idsOfItems(s.Items), id(3, 0), id(3, 0)), lastId)
		for _, name := range []string{"a", "g", "h", longestKey, ""} {
			checkFresh(t, "GroupNew", given, func() []any { got, ok := impl.GroupNew(s, name, id(0, 0)); return []any{got, ok} })
			checkFresh(t, "GroupDone", []any{s, ids}, func() []any { got, n := impl.GroupDone(s, name, ids); return []any{got, n} })
			checkFresh(t, "GroupDone", []any{s, ids}, func() []any { got, n := impl.GroupDone(s, name, ids[:1]); return []any{got, n} })
			for _, who := range []string{"", "ann", "bob", "cid"} {
				checkFresh(t, "GroupWaits", given, func() []any { return []any{impl.GroupWaits(s, name, who)} })
				for _, n := range []int{-1, 0, 1, 4, 20} {
					checkFresh(t, "GroupRead", given, func() []any { got, told := impl.GroupRead(s, name, who, 40, n); return []any{got, told} })
					checkFresh(t, "GroupTake", given, func() []any { got, told := impl.GroupTake(s, name, who, 40, n); return []any{got, told} })
				}
			}
		}
	}
}

// Items and groups that share one list leave lists that do not.
func TestMemoryOfSharedItems(t *testing.T) {
	fields, waits := withRoom(fieldsFor("x"), impl.Pair{Field: "spare"}), withRoom([]impl.Wait{waitFor(id(10, 0)), waitFor(id(10, 1))}, impl.Wait{})
	s := manyItems(6)
	for i := range s.Items {
		s.Items[i].Fields = fields
	}
	s = withGroupOf(withGroupOf(s, "a", id(10, 1)), "g", id(10, 1))
	s.Groups[0].Waits, s.Groups[1].Waits = waits, waits[:1]
	if !impl.StreamOk(s) {
		t.Fatalf("%+v", s)
	}
	add, _, _ := impl.StreamAdd(s, 50, fields)
	trim, _ := impl.StreamTrim(s, 4)
	drop, _ := impl.StreamDrop(s, id(10, 0))
	fresh, _ := impl.GroupNew(s, "h", id(10, 0))
	read, told := impl.GroupRead(s, "g", "bob", 50, 3)
	done, _ := impl.GroupDone(s, "a", []impl.Id{id(10, 0)})
	take, taken := impl.GroupTake(s, "a", "bob", 50, 3)
	refused, _, _ := impl.StreamAdd(s, -1, fields)
	if len(told) != 3 || len(taken) != 2 {
		t.Fatalf("%+v, %+v", told, taken)
	}
	checkAlone(t, "each", add, trim, drop, fresh, read, told, done, take, taken, refused, impl.StreamRange(s, impl.Id{}, lastId, 9), impl.GroupWaits(s, "a", ""), fields, waits)
}

// What was handed in may be written over then, and the answer stays.
func TestMemoryOfAddedFields(t *testing.T) {
	fields := fieldsFor("x")
	s, one, _ := impl.StreamAdd(impl.Stream{}, 5, fields)
	next, again, _ := impl.StreamAdd(s, 5, fields)
	scribble(fields, impl.Pair{Field: "over"})
	scribble(s.Items[0].Fields, impl.Pair{Field: "over"})
	for i, item := range next.Items {
		if !slices.Equal(item.Fields, fieldsFor("x")) {
			t.Error("item " + strconv.Itoa(i) + " is written over")
		}
	}
	if got := impl.StreamRange(next, one, again, 2); len(got) != 2 {
		t.Errorf("%+v", got)
	}
}
