package tests

import (
	"slices"
	"strconv"
	"testing"

	"loop.example/quincunx/impl"
)

// P26: an order changes what stands under its keys alone, and only if it may.
func TestP26ChangesItsKeysAlone(t *testing.T) {
	c := chance(71)
	changed := map[string]int{}
	for range 20000 {
		b := anyBase(c, 12)
		args := anyLine(c, allOrders())
		for i := 1; i < len(args) && len(b.Entries) > 0; i++ {
			if c.IntN(2) == 0 && slices.Contains(impl.Keys(args), args[i]) {
				args[i] = b.Entries[c.IntN(len(b.Entries))].Key
			}
		}
		got, reply := impl.Do(b, args)
		if !impl.Changes(args) || reply.Kind == impl.ReplyErr {
			if !sameBase(got, b) {
				t.Fatalf("%q to %+v leaves %+v", args, b, got)
			}
			continue
		}
		keys := impl.Keys(args)
		if args[0] != "FLUSH" && !sameBase(withoutKeys(got, keys...), withoutKeys(b, keys...)) {
			t.Fatalf("%q to %+v leaves %+v", args, b, got)
		}
		if got.Now != b.Now {
			t.Fatalf("%q: the time is %d, not %d", args, got.Now, b.Now)
		}
		if !sameBase(got, b) {
			changed[args[0]]++
		}
	}
	for _, o := range allOrders() {
		if o.changes && changed[o.word] == 0 {
			t.Errorf("%s never changed anything", o.word)
		}
	}
}

// P26: what stands under other keys stays, whatever is done to one of a full base.
func TestP26OfAFullBase(t *testing.T) {
	b := manyEntries(12, 3)
	for _, o := range allOrders() {
		for _, e := range b.Entries {
			args := orderAbout(o, e.Key)
			got, reply := checkDo(t, b, args)
			if o.word == "FLUSH" {
				continue
			}
			if !sameBase(withoutKeys(got, e.Key), withoutKeys(b, e.Key)) {
				t.Errorf("%q: %+v, %+v", args, got, reply)
			}
		}
	}
}

// replyTo is the reply to an order that changes nothing.
func replyTo(t *testing.T, b impl.Base, args ...string) impl.Reply {
	t.Helper()
	got, reply := impl.Do(b, args)
	if reply.Kind != impl.ReplyErr && !sameBase(got, b) {
		t.Fatalf("%q changes %+v to %+v", args, b, got)
	}
	return reply
}

// P27: a text that was set is got, until it is set again, or gone.
func TestP27SetAndGet(t *testing.T) {
	c := chance(72)
	for range 3000 {
		b, text := anyBase(c, 11), anyText(c)
		keys := keysAnd(c, b)
		key := keys[c.IntN(len(keys))]
		set, reply := impl.Do(b, []string{"SET", key, text})
		if !sameReply(reply, impl.Reply{}) || !sameBase(set, withEntry(b, impl.Entry{Key: key, Kind: impl.IsText, Text: text})) {
			t.Fatalf("SET %q %q to %+v: %+v, %+v", key, text, b, set, reply)
		}
		for _, ask := range []struct {
			word  string
			reply impl.Reply
		}{{"GET", textReply(text)}, {"TYPE", textReply("string")}, {"TTL", numberReply(-1)}, {"STRLEN", numberReply(len(text))}, {"EXISTS", numberReply(1)}} {
			if got := replyTo(t, set, ask.word, key); !sameReply(got, ask.reply) {
				t.Fatalf("%s behind SET %q %q: %+v", ask.word, key, text, got)
			}
		}
		again, _ := impl.Do(set, []string{"SET", key, "again"})
		if got := replyTo(t, again, "GET", key); !sameReply(got, textReply("again")) {
			t.Fatalf("set again: %+v", got)
		}
		gone, reply := impl.Do(set, []string{"DEL", key})
		if got := replyTo(t, gone, "GET", key); !sameReply(got, noneReply()) || !sameReply(reply, numberReply(1)) {
			t.Fatalf("behind DEL: %+v, %+v", got, reply)
		}
	}
}

// P28: numbers are added one behind the other as both together.
func TestP28Sums(t *testing.T) {
	checkSteps(t, impl.Base{}, []step{{"INCRBY n 7", ":7"}, {"INCR n", ":8"}, {"GET n", "$1 8"}, {"HINCRBY h f -5", ":-5"}, {"HGET h f", "$2 -5"}, {"SET x x", "+OK"}, {"INCR x", "-number"}, {"GET x", "$1 x"}, {"HSET h x x", ":1"}, {"HINCRBY h x 1", "-number"}, {"ZINCRBY z 3 a", ":3"}, {"ZINCRBY z -5 a", ":-2"}})
	c := chance(73)
	for range 3000 {
		a, b := c.IntN(2*most+1)-most, c.IntN(2*most+1)-most
		both := a + b
		first, second := strconv.Itoa(a), strconv.Itoa(b)
		for word, wrong := range map[string]string{"INCRBY k ": "number", "HINCRBY k f ": "number", "ZINCRBY k ": "long"} {
			behind := ""
			if word == "ZINCRBY k " {
				behind = " m"
			}
			base, reply := impl.Do(impl.Base{}, line(word+first+behind))
			if !sameReply(reply, numberReply(a)) {
				t.Fatalf("%s%d: %+v", word, a, reply)
			}
			want := numberReply(both)
			if both > most || both < -most {
				want = errorReply(wrong)
			}
			if _, reply = impl.Do(base, line(word+second+behind)); !sameReply(reply, want) {
				t.Fatalf("%s%d, then %d: %+v", word, a, b, reply)
			}
			if once, reply := impl.Do(impl.Base{}, line(word+strconv.Itoa(both)+behind)); want.Kind == impl.ReplyInt && !sameReply(reply, want) {
				t.Fatalf("%s%d at once: %+v, %+v", word, both, once, reply)
			}
		}
	}
}

// P29: what passes away is there till then, and not longer.
func TestP29Expire(t *testing.T) {
	c := chance(74)
	for range 3000 {
		now, stays := c.IntN(lastTime-100), []int{1, 2, 3, 50, 99}[c.IntN(5)]
		b := impl.Base{Now: now}
		for range 5 {
			b = withEntry(b, anyEntry(c, anyKey(c), b.Now))
		}
		key := b.Entries[c.IntN(len(b.Entries))].Key
		orders := [][]string{{"EXPIRE", key, strconv.Itoa(stays)}, {"EXPIREAT", key, strconv.Itoa(now + stays)}}
		got, reply := impl.Do(b, orders[c.IntN(2)])
		if ttl := replyTo(t, got, "TTL", key); !sameReply(reply, numberReply(1)) || !sameReply(ttl, numberReply(stays)) {
			t.Fatalf("%d to stay of %+v: %+v, TTL %+v", stays, b, reply, ttl)
		}
		ahead, then := impl.BaseTick(got, stays-1), impl.BaseTick(got, stays)
		if is := replyTo(t, ahead, "TTL", key); !sameReply(is, numberReply(1)) {
			t.Fatalf("a tick ahead: %+v", is)
		}
		if is := replyTo(t, then, "TTL", key); !sameReply(is, numberReply(-2)) {
			t.Fatalf("then: %+v", is)
		}
		kept, reply := impl.Do(ahead, []string{"PERSIST", key})
		if is := replyTo(t, impl.BaseTick(kept, 1), "TTL", key); !sameReply(is, numberReply(-1)) || !sameReply(reply, numberReply(1)) {
			t.Fatalf("behind PERSIST: %+v, %+v", is, reply)
		}
		dropped, _ := impl.Do(b, []string{"DEL", key})
		if over, reply := impl.Do(b, []string{"EXPIRE", key, "0"}); !sameBase(over, dropped) || !sameReply(reply, numberReply(1)) {
			t.Fatalf("EXPIRE 0 of %+v: %+v, %+v", b, over, reply)
		}
	}
}

// P29: an order that changes what stands there leaves until when; what is set, or is there anew, is for ever.
func TestP29WhatStaysForHowLong(t *testing.T) {
	for _, keeps := range []struct {
		kind   int
		orders []string
	}{
		{impl.IsText, []string{"APPEND k x", "APPEND k "}},
		{impl.IsList, []string{"LPUSH k x", "RPUSH k x y", "LSET k 0 x", "LTRIM k 0 0", "LTRIM k 0 -1", "LREM k 0 x"}},
		{impl.IsSet, []string{"SADD k x", "SADD k a", "SREM k x"}},
		{impl.IsScores, []string{"ZADD k 5 a", "ZADD k 5 x", "ZINCRBY k 5 a", "ZINCRBY k 5 x", "ZREM k x"}},
		{impl.IsFields, []string{"HSET k a x", "HSET k x x", "HINCRBY k a 1", "HINCRBY k x 1", "HDEL k x"}},
	} {
		for _, order := range append(keeps.orders, "RENAME k k", "RENAME tA tB", "EXPIRE k 9", "EXISTS k k") {
			for _, until := range []int{0, 12, 2 * lastTime} {
				e := oneOfKind("k", keeps.kind)
				e.Until = until
				want := until
				if order == "EXPIRE k 9" {
					want = 12
				}
				got, reply := checkDo(t, withEntry(manyEntries(5, 3), e), line(order))
				if stands, there := impl.BaseGet(got, "k"); !there || stands.Until != want || reply.Kind == impl.ReplyErr {
					t.Errorf("%s of what is there until %d: %+v, %+v", order, until, stands, reply)
				}
			}
		}
	}
	e := impl.Entry{Key: "k", Kind: impl.IsText, Text: "5", Until: 12}
	checkSteps(t, withEntry(impl.Base{Now: 3}, e), []step{{"INCR k", ":6"}, {"INCRBY k 2", ":8"}, {"TTL k", ":9"}, {"SET k 1", "+OK"}, {"TTL k", ":-1"}, {"EXPIRE k 4", ":1"}, {"DEL k", ":1"}, {"INCR k", ":1"}, {"TTL k", ":-1"}})
}

// P30: what is renamed stands under its new key, until when it stood, and not under the old one.
func TestP30Rename(t *testing.T) {
	c := chance(75)
	for range 3000 {
		b := anyBase(c, 12)
		if len(b.Entries) == 0 {
			continue
		}
		e := b.Entries[c.IntN(len(b.Entries))]
		keys := keysAnd(c, b)
		to := keys[c.IntN(len(keys))]
		moved := e
		moved.Key = to
		want := withEntry(withoutKeys(b, e.Key), moved)
		got, reply := impl.Do(b, []string{"RENAME", e.Key, to})
		if !sameReply(reply, impl.Reply{}) || !sameBase(got, want) {
			t.Fatalf("%q to %q of %+v: %+v, %+v", e.Key, to, b, got, reply)
		}
		back, reply := impl.Do(got, []string{"RENAME", to, e.Key})
		was := b
		if to != e.Key {
			was = withoutKeys(b, to)
		}
		if !sameReply(reply, impl.Reply{}) || !sameBase(back, was) {
			t.Fatalf("%q to %q of %+v, and back: %+v, %+v", e.Key, to, b, back, reply)
		}
		if self, reply := impl.Do(b, []string{"RENAME", e.Key, e.Key}); !sameReply(reply, impl.Reply{}) || !sameBase(self, b) {
			t.Fatalf("%q to itself of %+v: %+v, %+v", e.Key, b, self, reply)
		}
		gone := withoutKeys(b, e.Key)
		for _, key := range []string{e.Key, to} {
			if none, reply := impl.Do(gone, []string{"RENAME", e.Key, key}); !isError(reply, "none") || !sameBase(none, gone) {
				t.Fatalf("nothing to %q: %+v, %+v", key, none, reply)
			}
		}
	}
}

// P31: what stands under a key is of one kind, and no order for another kind does anything to it.
func TestP31OfOneKind(t *testing.T) {
	c := chance(76)
	sizes := []string{"STRLEN", "LLEN", "SCARD", "ZCARD", "HLEN"}
	for range 1000 {
		b := withEntry(anyBase(c, 11), anyEntry(c, anyKey(c), lastTime))
		for _, e := range b.Entries {
			for i, word := range sizes {
				reply := replyTo(t, b, word, e.Key)
				want := errorReply("kind")
				if e.Kind == i+1 {
					want = numberReply(len(e.Text) + len(e.List) + len(e.Scores) + len(e.Fields))
				}
				if !sameReply(reply, want) {
					t.Fatalf("%s of %+v: %+v", word, e, reply)
				}
			}
		}
	}
}

func TestP31EachOrderOfEachKind(t *testing.T) {
	for kind := 1; kind <= 5; kind++ {
		e := oneOfKind("k", kind)
		e.Until = 9
		b := impl.Base{Now: 3, Entries: []impl.Entry{e}}
		for _, o := range allOrders() {
			args := orderAbout(o, "k")
			got, reply := checkDo(t, b, args)
			if o.kind == 0 && isError(reply, "kind") || o.kind != 0 && (o.kind != kind) != isError(reply, "kind") || isError(reply, "kind") && !sameBase(got, b) {
				t.Errorf("%q of kind %d: %+v", args, kind, reply)
			}
		}
	}
}

// checkDoAll holds DoAll against Do of each.
func checkDoAll(t *testing.T, b impl.Base, orders [][]string) {
	t.Helper()
	want := b
	var said []impl.Reply
	for _, args := range orders {
		next, reply := impl.Do(want, args)
		if !isError(reply, "base") {
			want = next
		}
		said = append(said, reply)
	}
	got, replies := impl.DoAll(b, orders)
	if !sameBase(got, want) || !slices.EqualFunc(replies, said, sameReply) {
		t.Fatalf("%q to %+v: %+v, %+v", orders, b, got, replies)
	}
}

// P32: orders one behind the other are done as each by itself.
func TestP32DoAll(t *testing.T) {
	c := chance(77)
	for range 500 {
		orders := make([][]string, c.IntN(41))
		some := someOrders(c)
		for i := range orders {
			orders[i] = anyLine(c, some)
			if wrong := notOrders(); c.IntN(20) == 0 {
				orders[i] = wrong[c.IntN(len(wrong))]
			}
		}
		checkDoAll(t, anyBase(c, 12), orders)
	}
}

func TestP32DoAllAtItsLimits(t *testing.T) {
	for _, b := range []impl.Base{{}, manyEntries(12, 3)} {
		for _, count := range []int{0, 1, 39, 40} {
			checkDoAll(t, b, slices.Repeat([][]string{{"INCR", "tA"}}, count))
		}
		checkDoAll(t, b, nil)
		checkDoAll(t, b, notOrders())
		checkDoAll(t, b, append(notOrders(), []string{"FLUSH"}, nil, []string{"INCR", "n"}, []string{"NONE"}, []string{"INCR", "n"}))
		for _, count := range []int{41, 60, 1000} {
			if got, replies := impl.DoAll(b, slices.Repeat([][]string{{"FLUSH"}}, count)); len(replies) != 0 || !sameBase(got, b) {
				t.Errorf("%d orders: %+v, %+v", count, got, replies)
			}
			if got, replies := impl.DoAll(b, make([][]string, count)); len(replies) != 0 || !sameBase(got, b) {
				t.Errorf("%d that are none: %+v, %+v", count, got, replies)
			}
		}
	}
	got, replies := impl.DoAll(impl.Base{}, slices.Repeat([][]string{{"INCR", "n"}}, 40))
	if len(replies) != 40 || !sameReply(replies[39], numberReply(40)) || len(got.Entries) != 1 || got.Entries[0].Text != "40" {
		t.Errorf("forty: %+v, %+v", got, replies)
	}
	for _, b := range wrongBases() {
		for _, orders := range [][][]string{nil, {{"DBSIZE"}}, {{"FLUSH"}, {"SET", "k", "v"}}, {nil}, make([][]string, 41)} {
			if got, replies := impl.DoAll(b, orders); len(replies) != 0 || !isNothing(got) {
				t.Errorf("not ok, %q to %+v: %+v, %+v", orders, b, got, replies)
			}
		}
	}
}
