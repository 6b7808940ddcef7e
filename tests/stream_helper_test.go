package tests

import (
	"math"
	"math/rand/v2"
	"slices"
	"strings"

	"loop.example/quincunx/impl"
)

// lastId is the greatest id that may be.
var lastId = impl.Id{Time: lastTime, Num: most}

// wrongIds may not be.
var wrongIds = []impl.Id{{Time: -1}, {Num: -1}, {Time: lastTime + 1}, {Num: most + 1}, {Time: 5, Num: most + 1}, {Time: lastTime + 1, Num: 5}, {Time: math.MinInt}, {Time: math.MaxInt}, {Num: math.MinInt}, {Num: math.MaxInt}, {Time: -1, Num: -1}}

// wrongTimes are out of 0..TimeMax.
var wrongTimes = []int{-1, -lastTime, lastTime + 1, math.MaxInt, math.MinInt}

// wrongKeys are no keys.
var wrongKeys = []string{"", longKey, tooLong}

func id(time int, num int) impl.Id {
	return impl.Id{Time: time, Num: num}
}

// fieldsFor is fields that tell which item they are of.
func fieldsFor(text string) []impl.Pair {
	return []impl.Pair{{Field: "f", Text: text}, {Field: "g", Text: text}}
}

// streamOf has an item at each of these ids, and the last as Last.
func streamOf(ids ...impl.Id) impl.Stream {
	var s impl.Stream
	for i, one := range ids {
		s.Items = append(s.Items, impl.Item{Id: one, Fields: fieldsFor(many(i + 1)[i])})
		s.Last = one
	}
	return s
}

// manyItems is a stream of so many items, at 10-0, 10-1, 11-0, 11-1 and so on.
func manyItems(n int) impl.Stream {
	var ids []impl.Id
	for i := range n {
		ids = append(ids, id(10+i/2, i%2))
	}
	return streamOf(ids...)
}

// waitFor is of ann, at 5, once.
func waitFor(one impl.Id) impl.Wait {
	return impl.Wait{Id: one, Who: "ann", At: 5, Times: 1}
}

// withGroupOf is a stream with one more group, that has come to an id and waits for these.
func withGroupOf(s impl.Stream, name string, last impl.Id, waits ...impl.Wait) impl.Stream {
	s.Groups = append(slices.Clone(s.Groups), impl.Group{Name: name, Last: last, Waits: waits})
	slices.SortFunc(s.Groups, func(a impl.Group, b impl.Group) int { return strings.Compare(a.Name, b.Name) })
	return s
}

// waitingStream has so many items, and a group "g" that has come to the last, and waits for so many of the first; every third is bob's.
func waitingStream(items int, waits int) impl.Stream {
	s := manyItems(items)
	var list []impl.Wait
	for i, item := range s.Items[:waits] {
		w := impl.Wait{Id: item.Id, Who: "ann", At: 20 + i, Times: 1 + i}
		if i%3 == 2 {
			w.Who = "bob"
		}
		list = append(list, w)
	}
	return withGroupOf(s, "g", s.Last, list...)
}

func sameItem(a impl.Item, b impl.Item) bool {
	return a.Id == b.Id && slices.Equal(a.Fields, b.Fields)
}

func sameItems(a []impl.Item, b []impl.Item) bool {
	return slices.EqualFunc(a, b, sameItem)
}

func sameGroup(a impl.Group, b impl.Group) bool {
	return a.Name == b.Name && a.Last == b.Last && slices.Equal(a.Waits, b.Waits)
}

func sameStream(a impl.Stream, b impl.Stream) bool {
	return a.Last == b.Last && sameItems(a.Items, b.Items) && slices.EqualFunc(a.Groups, b.Groups, sameGroup)
}

func isNoStream(s impl.Stream) bool {
	return sameStream(s, impl.Stream{})
}

func copyOfStream(s impl.Stream) impl.Stream {
	out := impl.Stream{Last: s.Last}
	for _, i := range s.Items {
		out.Items = append(out.Items, impl.Item{Id: i.Id, Fields: slices.Clone(i.Fields)})
	}
	for _, g := range s.Groups {
		g.Waits = slices.Clone(g.Waits)
		out.Groups = append(out.Groups, g)
	}
	return out
}

// groupNamed is nothing, if there is none.
func groupNamed(s impl.Stream, name string) impl.Group {
	for _, g := range s.Groups {
		if g.Name == name {
			return g
		}
	}
	return impl.Group{}
}

// anyId is one of some thirty, so that two are often the same; now and then one at a limit.
func anyId(c *rand.Rand) impl.Id {
	if c.IntN(12) == 0 {
		return []impl.Id{lastId, {Time: lastTime}, {Num: most}, {Time: 7, Num: most}, {Time: lastTime, Num: most - 1}}[c.IntN(5)]
	}
	return id(c.IntN(8), c.IntN(4))
}

// anyIds is at most so many, ascending, none above last.
func anyIds(c *rand.Rand, most int, last impl.Id) []impl.Id {
	var ids []impl.Id
	for range c.IntN(most + 1) {
		if one := anyId(c); !before(last, one) {
			ids = append(ids, one)
		}
	}
	slices.SortFunc(ids, func(a impl.Id, b impl.Id) int {
		switch {
		case before(a, b):
			return -1
		case before(b, a):
			return 1
		}
		return 0
	})
	return slices.Compact(ids)
}

func anyWho(c *rand.Rand) string {
	return []string{"ann", "bob", "cid", longestKey, "\xff"}[c.IntN(5)]
}

func anyAt(c *rand.Rand) int {
	return []int{0, 1, 2, 3, 5, 8, 13, lastTime - 1, lastTime}[c.IntN(9)]
}

// anyStream is ok.
func anyStream(c *rand.Rand) impl.Stream {
	s := impl.Stream{Last: anyId(c)}
	for _, one := range anyIds(c, 30, s.Last) {
		if len(s.Items) < 16 {
			s.Items = append(s.Items, impl.Item{Id: one, Fields: append(anyFields(c, 3), impl.Pair{Field: "\xff\xff\xff"})})
		}
	}
	for _, name := range []string{"a", "g", longestKey} {
		if c.IntN(3) == 0 {
			continue
		}
		g := impl.Group{Name: name, Last: s.Last}
		if one := anyId(c); before(one, s.Last) {
			g.Last = one
		}
		for _, one := range anyIds(c, 30, g.Last) {
			if len(g.Waits) < 16 {
				g.Waits = append(g.Waits, impl.Wait{Id: one, Who: anyWho(c), At: anyAt(c), Times: []int{1, 1, 2, most - 1, most}[c.IntN(5)]})
			}
		}
		s.Groups = append(s.Groups, g)
	}
	return s
}

// rightStreams are streams that are ok, at their limits.
func rightStreams() []impl.Stream {
	out := []impl.Stream{
		{},
		{Items: []impl.Item{}, Groups: []impl.Group{}},
		{Last: lastId},
		streamOf(impl.Id{}),
		streamOf(lastId),
		streamOf(impl.Id{}, lastId),
		streamOf(id(5, most), id(6, 0)),
		manyItems(15),
		manyItems(16),
		{Last: id(9, 9), Items: manyItems(0).Items},
		{Last: id(7, 0), Items: []impl.Item{{Id: id(7, 0), Fields: []impl.Pair{{}}}}},
		{Last: id(7, 1), Items: []impl.Item{{Id: id(7, 0), Fields: manyFields(16)}}},
		withGroupOf(impl.Stream{}, "g", impl.Id{}),
		withGroupOf(impl.Stream{}, "g", impl.Id{}, waitFor(impl.Id{})),
		withGroupOf(streamOf(lastId), longestKey, lastId, waitFor(lastId)),
		withGroupOf(withGroupOf(withGroupOf(manyItems(3), "a", id(10, 0)), "b", impl.Id{}), "ab", id(11, 0)),
		withGroupOf(manyItems(2), "g", id(10, 1), impl.Wait{Id: id(3, 0), Who: longestKey, At: lastTime, Times: most}, impl.Wait{Id: id(10, 1), Who: "\x00", Times: 1}),
		waitingStream(16, 16),
		waitingStream(16, 15),
		waitingStream(3, 2),
	}
	dropped := waitingStream(16, 16)
	dropped.Items = dropped.Items[8:]
	return append(out, dropped)
}

// wrongStreams are streams that are not ok.
func wrongStreams() []impl.Stream {
	out := append(wrongItems(), wrongGroups()...)
	for _, one := range wrongIds {
		out = append(out, impl.Stream{Last: one})
		spoilt := manyItems(3)
		spoilt.Last = one
		out = append(out, spoilt)
	}
	return append(out, wrongWaits()...)
}

func wrongItems() []impl.Stream {
	low := streamOf(id(5, 0), id(6, 0))
	low.Last = id(5, 9)
	out := []impl.Stream{
		manyItems(17),
		manyItems(40),
		low,
		streamOf(id(5, 0), id(5, 0)),
		streamOf(id(5, 1), id(5, 0)),
		streamOf(id(6, 0), id(5, 9)),
		streamOf(id(4, 0), id(6, 0), id(5, 0), id(7, 0)),
		streamOf(id(4, 0), id(5, 0), id(4, 0), id(7, 0)),
	}
	for _, one := range wrongIds {
		s := streamOf(one)
		s.Last = lastId
		first, last := manyItems(3), manyItems(3)
		first.Items[0].Id = one
		last.Items[2].Id, last.Last = one, lastId
		out = append(out, s, first, last)
	}
	for _, fields := range append(wrongFields(), nil, []impl.Pair{}) {
		for at := range 3 {
			s := manyItems(3)
			s.Items[at].Fields = fields
			out = append(out, s)
		}
	}
	return out
}

func wrongGroups() []impl.Stream {
	s := manyItems(3)
	out := []impl.Stream{}
	for _, names := range [][]string{{"a", "b", "c", "d"}, {"g", "g"}, {"b", "a"}, {"ab", "a"}, {"\xff", "\x7f"}, {"a", "c", "b"}, {"a", "b", "a"}} {
		more := copyOfStream(s)
		for _, name := range names {
			more.Groups = append(more.Groups, impl.Group{Name: name, Last: id(10, 0)})
		}
		out = append(out, more)
	}
	for _, name := range wrongKeys {
		out = append(out, withGroupOf(s, name, id(10, 0)), withGroupOf(withGroupOf(s, "g", impl.Id{}), name, id(10, 0)))
	}
	for _, one := range append(slices.Clone(wrongIds), id(11, 1), id(12, 0), lastId) {
		out = append(out, withGroupOf(s, "g", one), withGroupOf(withGroupOf(s, "a", impl.Id{}), "g", one))
	}
	return append(out, withGroupOf(impl.Stream{}, "g", id(0, 1)))
}

func wrongWaits() []impl.Stream {
	s := manyItems(6)
	with := func(waits ...impl.Wait) impl.Stream { return withGroupOf(s, "g", id(11, 0), waits...) }
	var waits []impl.Wait
	for i := range 17 {
		waits = append(waits, waitFor(id(3, i)))
	}
	out := []impl.Stream{
		with(waits...),
		with(waitFor(id(11, 1))),
		with(waitFor(id(10, 0)), waitFor(id(12, 0))),
		with(waitFor(id(10, 0)), waitFor(id(10, 0))),
		with(waitFor(id(10, 1)), waitFor(id(10, 0))),
		with(waitFor(id(10, 0)), waitFor(id(11, 0)), waitFor(id(10, 1))),
		withGroupOf(with(), "h", id(10, 0), waitFor(id(10, 1))),
	}
	spoil := func(change func(w *impl.Wait)) {
		for at := range 3 {
			three := []impl.Wait{waitFor(id(9, 0)), waitFor(id(10, 0)), waitFor(id(11, 0))}
			change(&three[at])
			out = append(out, with(three...))
		}
	}
	for _, one := range wrongIds {
		spoil(func(w *impl.Wait) { w.Id = one })
	}
	for _, who := range wrongKeys {
		spoil(func(w *impl.Wait) { w.Who = who })
	}
	for _, at := range wrongTimes {
		spoil(func(w *impl.Wait) { w.At = at })
	}
	for _, times := range []int{0, -1, most + 1, math.MaxInt, math.MinInt} {
		spoil(func(w *impl.Wait) { w.Times = times })
	}
	return out
}
