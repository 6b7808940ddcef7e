package tests

import (
	"math"
	"math/rand/v2"
	"slices"
	"strings"

	"loop.example/quincunx/impl"
)

const lastTime = 1000000 // TimeMax, as the document has it

// longestKey is the longest key that may be, longKey one byte more.
var (
	longestKey = strings.Repeat("k", 12)
	longKey    = strings.Repeat("k", 13)
)

func sameEntry(a impl.Entry, b impl.Entry) bool {
	return a.Key == b.Key && a.Until == b.Until && a.Kind == b.Kind && a.Text == b.Text &&
		slices.Equal(a.List, b.List) && slices.Equal(a.Scores, b.Scores) && slices.Equal(a.Fields, b.Fields)
}

func sameBase(a impl.Base, b impl.Base) bool {
	return a.Now == b.Now && slices.EqualFunc(a.Entries, b.Entries, sameEntry)
}

func isNothing(b impl.Base) bool {
	return sameBase(b, impl.Base{})
}

func byKey(entries []impl.Entry) []impl.Entry {
	out := slices.Clone(entries)
	slices.SortFunc(out, func(a impl.Entry, b impl.Entry) int { return strings.Compare(a.Key, b.Key) })
	return out
}

// entryAt is false if no entry has the key.
func entryAt(b impl.Base, key string) (impl.Entry, bool) {
	for _, e := range b.Entries {
		if e.Key == key {
			return e, true
		}
	}
	return impl.Entry{}, false
}

// withoutKeys is a base without the entries of these keys.
func withoutKeys(b impl.Base, keys ...string) impl.Base {
	left := slices.DeleteFunc(slices.Clone(b.Entries), func(e impl.Entry) bool { return slices.Contains(keys, e.Key) })
	return impl.Base{Now: b.Now, Entries: left}
}

// withEntry is a base with an entry in the place of that of its key, in order.
func withEntry(b impl.Base, e impl.Entry) impl.Base {
	left := withoutKeys(b, e.Key)
	return impl.Base{Now: b.Now, Entries: byKey(append(left.Entries, e))}
}

func anyKey(c *rand.Rand) string {
	few := []string{"a", "b", "ab", "k", "\x00", "\xff", "*", "?", "\r\n", "\u00e9", longestKey, longestKey[:11]}
	if c.IntN(3) > 0 {
		return few[c.IntN(len(few))]
	}
	bytes := make([]byte, 1+c.IntN(12))
	for i := range bytes {
		bytes[i] = byte(c.IntN(256))
	}
	return string(bytes)
}

// anyUntil is when something that is there at a time may be over.
func anyUntil(c *rand.Rand, now int) int {
	few := []int{0, 0, now + 1, now + 2, now + 5, lastTime + 1, 2 * lastTime}
	return few[c.IntN(len(few))]
}

// anyEntry is ok, and there at a time.
func anyEntry(c *rand.Rand, key string, now int) impl.Entry {
	e := impl.Entry{Key: key, Until: anyUntil(c, now), Kind: 1 + c.IntN(5)}
	one := anyText(c)
	switch e.Kind {
	case impl.IsText:
		e.Text = one
	case impl.IsList:
		e.List = append(anyTexts(c, 15), one)
	case impl.IsSet:
		e.List = append(anySet(c, 15), one)
		slices.Sort(e.List)
		e.List = slices.Compact(e.List)
	case impl.IsScores:
		e.Scores = scoresOf(c, having(append(anyTexts(c, 15), one), func(string) bool { return true }))
	case impl.IsFields:
		e.Fields = fieldsOf(c, having(append(anyTexts(c, 15), one), func(string) bool { return true }))
	}
	return e
}

func anyNow(c *rand.Rand) int {
	few := []int{0, 1, 10, lastTime - 1, lastTime, c.IntN(lastTime + 1)}
	return few[c.IntN(len(few))]
}

// anyBase is ok, with at most so many entries.
func anyBase(c *rand.Rand, most int) impl.Base {
	b := impl.Base{Now: anyNow(c)}
	for range c.IntN(most + 1) {
		b = withEntry(b, anyEntry(c, anyKey(c), b.Now))
	}
	return b
}

// manyEntries is a base with so many entries, of all kinds, the first for ever, the next until 1 behind its time, and so on.
func manyEntries(n int, now int) impl.Base {
	b := impl.Base{Now: now}
	for i, key := range many(n) {
		e := oneOfKind(key, 1+i%5)
		if i > 0 {
			e.Until = now + i
		}
		b.Entries = append(b.Entries, e)
	}
	return b
}

// oneOfKind is an entry of a kind, for ever, that holds "a" alone.
func oneOfKind(key string, kind int) impl.Entry {
	e := impl.Entry{Key: key, Kind: kind}
	switch kind {
	case impl.IsText:
		e.Text = "a"
	case impl.IsList, impl.IsSet:
		e.List = []string{"a"}
	case impl.IsScores:
		e.Scores = []impl.Score{{Text: "a", Num: 1}}
	case impl.IsFields:
		e.Fields = []impl.Pair{{Field: "a", Text: "1"}}
	}
	return e
}

// rightEntries are entries that are ok, at their limits.
func rightEntries() []impl.Entry {
	out := []impl.Entry{
		{Key: "k", Kind: impl.IsText},
		{Key: "k", Kind: impl.IsText, Text: longest},
		{Key: "k", Kind: impl.IsText, Text: "\x00\xff\r\n"},
		{Key: "k", Kind: impl.IsList, List: []string{""}},
		{Key: "k", Kind: impl.IsList, List: []string{"b", "a", "a", longest}},
		{Key: "k", Kind: impl.IsList, List: many(16)},
		{Key: "k", Kind: impl.IsSet, List: []string{""}},
		{Key: "k", Kind: impl.IsSet, List: []string{"", "\x00", longest}},
		{Key: "k", Kind: impl.IsSet, List: many(16)},
		{Key: "k", Kind: impl.IsScores, Scores: []impl.Score{{}}},
		{Key: "k", Kind: impl.IsScores, Scores: []impl.Score{{Text: longest, Num: -most}, {Text: "a", Num: most}}},
		{Key: "k", Kind: impl.IsScores, Scores: manyScores(16)},
		{Key: "k", Kind: impl.IsFields, Fields: []impl.Pair{{}}},
		{Key: "k", Kind: impl.IsFields, Fields: []impl.Pair{{Field: longest, Text: longest}}},
		{Key: "k", Kind: impl.IsFields, Fields: manyFields(16)},
		{Key: "k", Kind: impl.IsText, List: []string{}, Scores: []impl.Score{}, Fields: []impl.Pair{}},
	}
	for _, e := range slices.Clone(out) {
		for _, until := range []int{1, lastTime, 2 * lastTime} {
			e.Until = until
			out = append(out, e)
		}
		for _, key := range []string{longestKey, "\x00", "\xff\r\n", " "} {
			e.Key = key
			out = append(out, e)
		}
	}
	return out
}

// wrongEntries are entries that are not ok, and not empty either.
func wrongEntries() []impl.Entry {
	var out []impl.Entry
	for kind := 1; kind <= 5; kind++ {
		for _, key := range []string{"", longKey, tooLong} {
			out = append(out, oneOfKind(key, kind))
		}
		for _, until := range []int{-1, 2*lastTime + 1, math.MinInt, math.MaxInt} {
			e := oneOfKind("k", kind)
			e.Until = until
			out = append(out, e)
		}
		for _, other := range []int{0, -1, 6, 7, math.MinInt, math.MaxInt, 1, 2, 3, 4, 5} {
			e := oneOfKind("k", kind)
			e.Kind = other
			if other != kind && (kind != impl.IsList && kind != impl.IsSet || other != impl.IsList && other != impl.IsSet) {
				out = append(out, e)
			}
		}
		out = append(out, withTwoParts(kind)...)
	}
	return append(out, wrongInTheirParts()...)
}

// withTwoParts are entries of a kind that hold something of another kind, too.
func withTwoParts(kind int) []impl.Entry {
	var out []impl.Entry
	for other := 1; other <= 5; other++ {
		e, part := oneOfKind("k", kind), oneOfKind("k", other)
		if e.Text == "" && part.Text != "" || len(e.List) == 0 && len(part.List) > 0 || len(e.Scores) == 0 && len(part.Scores) > 0 || len(e.Fields) == 0 && len(part.Fields) > 0 {
			e.Text, e.List, e.Scores, e.Fields = e.Text+part.Text, append(e.List, part.List...), append(e.Scores, part.Scores...), append(e.Fields, part.Fields...)
			out = append(out, e)
		}
	}
	return out
}

func wrongInTheirParts() []impl.Entry {
	out := []impl.Entry{{Key: "k", Kind: impl.IsText, Text: tooLong}, {Key: "k", Kind: impl.IsText, Text: strings.Repeat("m", 400)}}
	for _, list := range wrongLists() {
		out = append(out, impl.Entry{Key: "k", Kind: impl.IsList, List: list})
	}
	for _, set := range wrongSets() {
		out = append(out, impl.Entry{Key: "k", Kind: impl.IsSet, List: set})
	}
	for _, list := range wrongScores() {
		out = append(out, impl.Entry{Key: "k", Kind: impl.IsScores, Scores: list})
	}
	for _, list := range wrongFields() {
		out = append(out, impl.Entry{Key: "k", Kind: impl.IsFields, Fields: list})
	}
	return out
}

// emptyEntries hold nothing, and are of another kind than IsText.
func emptyEntries(key string) []impl.Entry {
	var out []impl.Entry
	for _, kind := range []int{0, 2, 3, 4, 5, 6, -1, math.MaxInt} {
		for _, until := range []int{0, 1, 7, 2 * lastTime, -1, math.MaxInt} {
			out = append(out, impl.Entry{Key: key, Kind: kind, Until: until})
		}
	}
	return append(out, impl.Entry{Key: key, Kind: impl.IsList, List: []string{}, Scores: []impl.Score{}, Fields: []impl.Pair{}})
}

// wrongBases are bases that are not ok.
func wrongBases() []impl.Base {
	out := []impl.Base{{Now: -1}, {Now: lastTime + 1}, {Now: math.MinInt}, {Now: math.MaxInt}, manyEntries(13, 5), manyEntries(40, 0)}
	for _, now := range []int{-1, lastTime + 1} {
		b := manyEntries(3, 5)
		b.Now = now
		out = append(out, b)
	}
	for _, e := range wrongEntries() {
		out = append(out, impl.Base{Entries: []impl.Entry{e}})
	}
	for _, e := range emptyEntries("k") {
		out = append(out, impl.Base{Entries: []impl.Entry{e}}, impl.Base{Entries: []impl.Entry{oneOfKind("a", 1), e, oneOfKind("z", 1)}})
	}
	for _, keys := range [][]string{{"b", "a"}, {"a", "a"}, {"ab", "a"}, {"\xff", "\x7f"}, {"a", "b", "a"}, {"a", "c", "b"}, {"a", "b", "b"}} {
		var b impl.Base
		for i, key := range keys {
			b.Entries = append(b.Entries, oneOfKind(key, 1+i))
		}
		out = append(out, b)
	}
	for _, now := range []int{1, 7, lastTime} {
		for at := range 3 {
			for _, until := range []int{now, now - 1, 1} {
				b := manyEntries(3, now)
				b.Entries[at].Until = until
				if until > 0 {
					out = append(out, b)
				}
			}
		}
	}
	return out
}

// rightBases are bases that are ok, at their limits.
func rightBases() []impl.Base {
	out := []impl.Base{{}, {Now: lastTime}, {Now: 7}, {Entries: []impl.Entry{}}, manyEntries(11, 0), manyEntries(12, 0), manyEntries(12, 7), manyEntries(12, lastTime)}
	for _, e := range rightEntries() {
		b := impl.Base{Entries: []impl.Entry{e}}
		if e.Until > 0 {
			b.Now = min(e.Until-1, lastTime)
		}
		out = append(out, b)
	}
	return out
}
