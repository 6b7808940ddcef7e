package tests

import (
	"math"
	"slices"
	"strconv"
	"strings"
	"testing"

	"loop.example/quincunx/impl"
)

// checkOrders holds Orders of an entry that is ok against the document, and does them.
func checkOrders(t *testing.T, e impl.Entry) {
	t.Helper()
	orders := impl.Orders(e)
	if want := ordersByHand(e); !slices.EqualFunc(orders, want, slices.Equal[[]string]) {
		t.Fatalf("%+v: %q, not %q", e, orders, want)
	}
	b, replies := impl.DoAll(impl.Base{}, orders)
	if !sameBase(b, impl.Base{Entries: []impl.Entry{e}}) {
		t.Fatalf("%+v: %q make %+v", e, orders, b)
	}
	for i, reply := range replies {
		if reply.Kind == impl.ReplyErr {
			t.Fatalf("%q: %s", orders[i], reply.Text)
		}
	}
}

// P33: orders that make an entry make just it.
func TestP33OrdersMakeTheEntry(t *testing.T) {
	for _, e := range rightEntries() {
		checkOrders(t, e)
	}
	for _, e := range greatest().Entries {
		checkOrders(t, e)
	}
	c := chance(94)
	for range 5000 {
		checkOrders(t, anyEntry(c, anyKey(c), 0))
	}
}

// P33: of each kind, with as many texts as an order has room for, and one more; for ever, and until when.
func TestP33OrdersAtTheirLimits(t *testing.T) {
	for size := 1; size <= 16; size++ {
		for _, until := range []int{0, 1, lastTime, lastTime + 1, 2 * lastTime} {
			for _, e := range []impl.Entry{{Kind: impl.IsText, Text: longest[:size]}, {Kind: impl.IsList, List: slices.Repeat([]string{"b"}, size)}, {Kind: impl.IsSet, List: many(size)}, {Kind: impl.IsScores, Scores: manyScores(size)}, {Kind: impl.IsFields, Fields: manyFields(size)}} {
				e.Key, e.Until = "k", until
				checkOrders(t, e)
				count := map[int]int{impl.IsText: 1, impl.IsList: (size + 5) / 6, impl.IsSet: (size + 5) / 6, impl.IsScores: size, impl.IsFields: size}[e.Kind]
				if until > 0 {
					count++
				}
				if got := len(impl.Orders(e)); got != count {
					t.Errorf("%d of kind %d: %d orders, not %d", size, e.Kind, got, count)
				}
			}
		}
	}
	for _, c := range []struct {
		entry impl.Entry
		want  [][]string
	}{
		{impl.Entry{Key: "k", Kind: impl.IsText}, [][]string{{"SET", "k", ""}}},
		{impl.Entry{Key: "k", Kind: impl.IsText, Text: "a b", Until: 9}, [][]string{{"SET", "k", "a b"}, {"EXPIREAT", "k", "9"}}},
		{impl.Entry{Key: "l", Kind: impl.IsList, List: line("6 5 4 3 2 1")}, [][]string{line("RPUSH l 6 5 4 3 2 1")}},
		{impl.Entry{Key: "l", Kind: impl.IsList, List: line("7 6 5 4 3 2 1"), Until: 20}, [][]string{line("RPUSH l 7 6 5 4 3 2"), line("RPUSH l 1"), line("EXPIREAT l 20")}},
		{impl.Entry{Key: "s", Kind: impl.IsSet, List: line("1 2 3 4 5 6")}, [][]string{line("SADD s 1 2 3 4 5 6")}},
		{impl.Entry{Key: "s", Kind: impl.IsSet, List: line("1 2 3 4 5 6 7")}, [][]string{line("SADD s 1 2 3 4 5 6"), line("SADD s 7")}},
		{impl.Entry{Key: "z", Kind: impl.IsScores, Scores: []impl.Score{{Text: "b", Num: -1000000000}, {Text: "a", Num: 0}, {Text: "c", Num: 5}}}, [][]string{line("ZADD z -1000000000 b"), line("ZADD z 0 a"), line("ZADD z 5 c")}},
		{impl.Entry{Key: "h", Kind: impl.IsFields, Fields: []impl.Pair{{Field: "", Text: "x"}, {Field: "f", Text: ""}}, Until: 2000000}, [][]string{{"HSET", "h", "", "x"}, {"HSET", "h", "f", ""}, line("EXPIREAT h 2000000")}},
	} {
		if got := impl.Orders(c.entry); !slices.EqualFunc(got, c.want, slices.Equal[[]string]) {
			t.Errorf("%+v: %q, not %q", c.entry, got, c.want)
		}
	}
}

func TestOrdersOfWhatIsNotOk(t *testing.T) {
	for _, e := range slices.Concat(wrongEntries(), emptyEntries("k"), emptyEntries(""), []impl.Entry{{}}) {
		if got := impl.Orders(e); len(got) != 0 {
			t.Errorf("%+v: %q", e, got)
		}
	}
}

// P36: what a file says is what its records do, one behind the other.
func TestP36FileBase(t *testing.T) {
	c := chance(95)
	whole, cut := 0, 0
	for range 400 {
		records := anyFile(c, 8)
		text := textOf(records...)
		_, size := checkFile(t, text)
		if size == len(text) {
			whole++
		} else {
			cut++
		}
		for range 3 {
			if _, n := checkFile(t, text[:c.IntN(len(text)+1)]); n > size {
				t.Fatalf("a beginning of %q takes %d, not %d", text, n, size)
			}
			checkFile(t, text+anyText(c))
			checkFile(t, spoiled(c, text))
		}
	}
	if whole < 100 || cut < 50 {
		t.Errorf("%d files are read as a whole, %d are not", whole, cut)
	}
}

// P36: of a file that breaks off at any byte all records ahead are read.
func TestP36BreaksOffAtEachByte(t *testing.T) {
	records := []saved{at(0, "SET a 1"), at(0, "INCR a", "RPUSH l x y"), at(7, "EXPIREAT a 9", "LPOP l"), at(9, "DBSIZE"), at(9, "SET a 3")}
	text := textOf(records...)
	last := 0
	for i := range len(text) + 1 {
		_, n := checkFile(t, text[:i])
		if n > i || n < last {
			t.Fatalf("%d bytes: %d, not less than %d", i, n, last)
		}
		last = n
		ahead := 0
		for done := range records {
			if end := len(textOf(records[:done+1]...)); end <= i {
				ahead = end
			}
		}
		if n != ahead {
			t.Fatalf("%d bytes: %d, not %d", i, n, ahead)
		}
	}
	if last != len(text) {
		t.Errorf("%d of %d bytes", last, len(text))
	}
}

// checkTaken is of records of which so many are done.
func checkTaken(t *testing.T, taken int, records ...saved) impl.Base {
	t.Helper()
	b, n := checkFile(t, textOf(records...))
	if want := len(textOf(records[:taken]...)); n != want {
		t.Fatalf("%+v: %d bytes, not %d", records, n, want)
	}
	if taken > 0 && b.Now != records[taken-1].now {
		t.Fatalf("%+v: the time is %d", records, b.Now)
	}
	return b
}

// P36: a record may be of the time of the one ahead, and not of one less.
func TestP36ATimeThatGoesBack(t *testing.T) {
	for _, now := range []int{0, 1, 5, lastTime} {
		checkTaken(t, 2, at(now, "SET a 1"), at(now, "SET b 1"))
		checkTaken(t, 3, at(now, "SET a 1"), at(now, "SET b 1"), at(now, "SET c 1"))
	}
	for _, now := range []int{1, 5, lastTime} {
		checkTaken(t, 1, at(now, "SET a 1"), at(now-1, "SET b 1"))
		checkTaken(t, 1, at(now, "SET a 1"), at(0, "SET b 1"), at(now, "SET c 1"))
		checkTaken(t, 2, at(now-1, "SET a 1"), at(now, "SET b 1"), at(now-1, "SET c 1"), at(now, "SET d 1"))
		checkTaken(t, 1, at(now, "DBSIZE"), at(now-1, "DBSIZE"))
	}
	checkTaken(t, 2, at(0, "SET a 1"), at(lastTime, "SET b 1"))
	checkTaken(t, 1, at(lastTime, "SET a 1"), saved{lastTime + 1, [][]string{line("SET b 1")}})
}

// P36: of a record with an order that replies an error nothing is done, not even that time passes.
func TestP36AnOrderThatIsAnError(t *testing.T) {
	ahead := at(3, "SET k v", "EXPIREAT k 5", "SET s text", "RPUSH l a")
	for _, wrong := range []string{"NONE", "GET", "INCRBY n x", "GET toolongforakey", "LSET l 5 x", "RENAME none k", "AT 3 1", "EXPIRE k 1000001", "SET k", "INCR s", "LPUSH s x"} {
		for place := range 4 {
			s := at(5, "SET a 1", "SET b 2", "SET c 3")
			s.orders = slices.Insert(s.orders, place, line(wrong))
			b := checkTaken(t, 1, ahead, s, at(5, "SET z 1"))
			if e, there := entryAt(b, "k"); !there || e.Until != 5 || b.Now != 3 || len(b.Entries) != 3 {
				t.Fatalf("%s in place %d: %+v", wrong, place, b)
			}
		}
		checkTaken(t, 1, ahead, at(3, wrong), at(3, "SET z 1"))
	}
	for _, wrong := range []string{"NONE", "GET", "INCRBY n x", "LSET l 5 x", "RENAME none k"} {
		if b := checkTaken(t, 0, at(5, "SET a 1", wrong), ahead); !isNothing(b) {
			t.Fatalf("%s at first: %+v", wrong, b)
		}
	}
	for place := range 60 {
		s := saved{4, slices.Repeat([][]string{{"INCR", "n"}}, 60)}
		checkTaken(t, 2, ahead, s)
		s.orders[place] = []string{"INCR", "s"}
		checkTaken(t, 1, ahead, s, at(9, "SET z 1"))
	}
}

// P36: all orders of a record are done, also more than DoAll does.
func TestP36SixtyOrders(t *testing.T) {
	for _, count := range []int{1, 39, 40, 41, 59, 60} {
		s := saved{7, slices.Repeat([][]string{{"INCR", "n"}}, count)}
		b := checkTaken(t, 2, s, s)
		if want := (impl.Base{Now: 7, Entries: []impl.Entry{{Key: "n", Kind: impl.IsText, Text: strconv.Itoa(2 * count)}}}); !sameBase(b, want) {
			t.Errorf("twice %d: %+v", count, b)
		}
	}
}

// P36: what passes away between two records makes room for others, and is gone ahead of the second.
func TestP36WhatIsOver(t *testing.T) {
	full := saved{now: 3}
	for _, key := range many(12) {
		full.orders = append(full.orders, []string{"SET", key, "1"})
	}
	full.orders = append(full.orders, line("EXPIREAT tA 9"))
	checkTaken(t, 1, full, at(8, "SET new 1"))
	b := checkTaken(t, 2, full, at(9, "SET new 1"))
	if _, there := entryAt(b, "tA"); there || len(b.Entries) != 12 {
		t.Errorf("%+v", b)
	}
	b = checkTaken(t, 3, at(0, "SET k v", "EXPIRE k 5"), at(5, "RPUSH k a"), at(5, "GET none", "EXISTS k", "KEYS *", "TTL k"))
	if e, _ := entryAt(b, "k"); e.Kind != impl.IsList || e.Until != 0 {
		t.Errorf("%+v", b)
	}
	checkTaken(t, 1, at(0, "SET k v", "EXPIRE k 5"), at(4, "RPUSH k a"))
}

func TestFileBaseOfWhatIsNone(t *testing.T) {
	for _, text := range []string{"", "x", "\x00", "\r\n", wordsText("SET", "k", "v"), wordsText("AT", "5", "0"), wordsText("AT", "5", "1"), wordsText("AT", "-1", "1") + wordsText("DBSIZE"), " " + at(5, "DBSIZE").text(), at(5, "NONE").text(), strings.Repeat("*", 100000)} {
		if b, n := checkFile(t, text); n != 0 || !isNothing(b) {
			t.Errorf("%q: %+v, %d", text, b, n)
		}
	}
	c := chance(96)
	for range 3000 {
		checkFile(t, anyText(c)+anyText(c))
	}
	long := at(5, "SET k v", "APPEND k w").text()
	if _, n := impl.FileBase(strings.Repeat(long, 3000)); n != 3000*len(long) { // FileMax is a server's
		t.Errorf("%d of %d bytes", n, 3000*len(long))
	}
}

// fileByHand is FileOf of a base that is ok, with nothing of the program: a record for each entry.
func fileByHand(b impl.Base) string {
	if len(b.Entries) == 0 {
		return at(b.Now, "DBSIZE").text()
	}
	text := ""
	for _, e := range b.Entries {
		text += saved{b.Now, ordersByHand(e)}.text()
	}
	return text
}

func checkFileOf(t *testing.T, b impl.Base) {
	t.Helper()
	text := impl.FileOf(b)
	if want := fileByHand(b); text != want {
		t.Fatalf("%+v: %q, not %q", b, text, want)
	}
	got, n := impl.FileBase(text)
	if n != len(text) || !sameBase(got, b) {
		t.Fatalf("%+v: its file says %+v, by %d of %d bytes", b, got, n, len(text))
	}
	if again := impl.FileOf(got); again != text {
		t.Fatalf("%+v: %q, and again %q", b, text, again)
	}
}

// P37: a file that is made of a base says just it.
func TestP37FileOf(t *testing.T) {
	c := chance(97)
	for range 1500 {
		checkFileOf(t, anyBase(c, 12))
	}
	for range 100 {
		b, _ := impl.FileBase(textOf(anyFile(c, 8)...))
		checkFileOf(t, b)
	}
}

func TestP37FileOfAtItsLimits(t *testing.T) {
	for _, b := range rightBases() {
		checkFileOf(t, b)
	}
	for _, now := range []int{0, 1, 7, lastTime - 1, lastTime} {
		checkFileOf(t, impl.Base{Now: now})
		for _, count := range []int{1, 11, 12} {
			checkFileOf(t, manyEntries(count, now))
		}
	}
	b := greatest()
	checkFileOf(t, b)
	if text := impl.FileOf(b); len(text) <= 6000 {
		t.Errorf("the greatest base has a file of %d bytes", len(text))
	}
	b.Now = 0
	checkFileOf(t, b)
}

func TestFileOfWhatIsNotOk(t *testing.T) {
	for _, b := range wrongBases() {
		if text := impl.FileOf(b); text != "" {
			t.Errorf("%+v: %q", b, text)
		}
	}
}

// P38: how long something stays, told as until when, is the same at that time.
func TestP38FixedIsTheSame(t *testing.T) {
	c := chance(98)
	told, same := 0, 0
	for range 20000 {
		b := anyBase(c, 5)
		args := anyLine(c, allOrders())
		if c.IntN(2) == 0 {
			keys := keysAnd(c, b)
			args = []string{"EXPIRE", keys[c.IntN(len(keys))], anyFigures(c)}
		}
		want, said := impl.Do(b, args)
		if said.Kind == impl.ReplyErr {
			continue
		}
		fixed := impl.Fixed(b.Now, args)
		got, reply := impl.Do(b, fixed)
		if !sameBase(got, want) || !sameReply(reply, said) {
			t.Fatalf("%q, fixed %q, to %+v: %+v, %+v, not %+v, %+v", args, fixed, b, got, reply, want, said)
		}
		if args[0] == "EXPIRE" {
			told++
			if fixed[0] != "EXPIREAT" {
				t.Fatalf("%q is fixed as %q", args, fixed)
			}
		} else {
			same++
			if !slices.Equal(fixed, args) {
				t.Fatalf("%q is fixed as %q", args, fixed)
			}
		}
	}
	if told < 1000 || same < 1000 {
		t.Errorf("%d told, %d the same", told, same)
	}
}

// P38: at each time that may be, and each number; what is fixed is until when at any time.
func TestP38FixedAtItsLimits(t *testing.T) {
	for _, now := range []int{0, 1, 7, lastTime - 1, lastTime} {
		for _, n := range []int{0, 1, -1, 5, -now, -now - 1, lastTime, lastTime + 1, 2 * lastTime, most, -most, most - 1} {
			for _, key := range []string{"k", "", longestKey, longKey, longest, "EXPIRE"} {
				args := []string{"EXPIRE", key, strconv.Itoa(n)}
				want := []string{"EXPIREAT", key, strconv.Itoa(now + n)}
				if got := impl.Fixed(now, args); !slices.Equal(got, want) {
					t.Fatalf("%q at %d: %q", args, now, got)
				}
				if got := impl.Fixed(now, want); !slices.Equal(got, want) {
					t.Fatalf("%q at %d: %q", want, now, got)
				}
			}
		}
	}
	b := doLines(t, impl.Base{Now: 7}, "SET k v")
	later := impl.BaseTick(doLines(t, b, "EXPIRE k 5"), 3)
	fixed, _ := impl.Do(impl.BaseTick(b, 3), impl.Fixed(7, line("EXPIRE k 5")))
	if !sameBase(fixed, later) {
		t.Errorf("fixed ahead, done later: %+v, not %+v", fixed, later)
	}
}

// Any other order is as it is.
func TestFixedOfOthers(t *testing.T) {
	same := func(now int, args []string) {
		t.Helper()
		if got := impl.Fixed(now, args); !slices.Equal(got, args) {
			t.Fatalf("%q at %d: %q", args, now, got)
		}
	}
	for _, now := range []int{-1, lastTime + 1, math.MinInt, math.MaxInt, most} {
		same(now, line("EXPIRE k 5"))
		same(now, line("EXPIRE k 0"))
	}
	for _, now := range []int{0, 7, lastTime, -1, lastTime + 1} {
		for _, order := range []string{"EXPIRE", "EXPIRE k", "EXPIRE 5", "EXPIRE k 5 5", "EXPIRE k 5 ", "EXPIRE k k 5", "EXPIRE k 5 5 5 5 5 5", "EXPIRE k x", "EXPIRE k ", "EXPIRE k 05", "EXPIRE k -0", "EXPIRE k +5", "EXPIRE k 5x", "EXPIRE k 1000000001", "EXPIRE k -1000000001", "expire k 5", "Expire k 5", "EXPIRE\x00 k 5", "EXPIREAT k 5", "PERSIST k 5", "SET k 5", "INCRBY k 5", "NONE k 5", " k 5"} {
			same(now, line(order))
		}
		for _, o := range allOrders() {
			if o.word != "EXPIRE" {
				same(now, orderAbout(o, "k"))
			}
		}
		for _, args := range append(notOrders(), []string{"EXPIRE", tooLong, "5"}, []string{"EXPIRE", "k", tooLong}) {
			same(now, args)
		}
	}
}
