package tests

import (
	"slices"
	"strconv"
	"strings"
	"testing"

	"loop.example/quincunx/impl"
)

// All orders, in any order, do what the document tells; each of them is done, and each error that it may reply comes.
func TestOrdersAsTold(t *testing.T) {
	c := chance(61)
	met := map[string]int{}
	for range 700 {
		b, orders := impl.Base{Now: anyNow(c)}, someOrders(c)
		for range 150 {
			args := anyLine(c, orders)
			next, reply := checkDo(t, b, args)
			outcome := "done"
			if reply.Kind == impl.ReplyErr {
				outcome = reply.Text
			}
			met[args[0]+" "+outcome]++
			b = next
			if c.IntN(10) == 0 {
				b = impl.BaseTick(b, c.IntN(4))
			}
		}
	}
	for _, o := range allOrders() {
		outcomes := append(strings.Fields(o.errors), "done")
		if o.form != "" {
			outcomes = append(outcomes, "words")
		}
		if strings.Contains(o.form, "K") {
			outcomes = append(outcomes, "key")
		}
		if o.kind != 0 {
			outcomes = append(outcomes, "kind")
		}
		for _, outcome := range outcomes {
			if met[o.word+" "+outcome] == 0 {
				t.Errorf("%s was never %s", o.word, outcome)
			}
		}
	}
}

// The same of bases that hold any bytes.
func TestOrdersOfAnyBases(t *testing.T) {
	c := chance(62)
	for range 3000 {
		b := anyBase(c, 12)
		for range 5 {
			args := anyLine(c, allOrders())
			if o, known := orderOf(args[0]); known && len(b.Entries) > 0 && strings.HasPrefix(o.form, "K") && len(args) > 1 {
				args[1] = b.Entries[c.IntN(len(b.Entries))].Key
			}
			checkDo(t, b, args)
		}
	}
}

func TestTextOrders(t *testing.T) {
	b := checkSteps(t, impl.Base{Now: 10}, []step{
		{"GET k", "$-1"}, {"STRLEN k", ":0"}, {"GETRANGE k 0 -1", "$0 "},
		{"SET k ", "+OK"}, {"GET k", "$0 "}, {"TYPE k", "$6 string"}, {"INCR k", "-number"}, {"APPEND k ", ":0"}, {"EXISTS k", ":1"},
		{"APPEND k hello", ":5"}, {"APPEND k !", ":6"}, {"GET k", "$6 hello!"}, {"STRLEN k", ":6"},
		{"GETRANGE k -3 -1", "$3 lo!"}, {"GETRANGE k 0 0", "$1 h"}, {"GETRANGE k -99 99", "$6 hello!"}, {"GETRANGE k 3 2", "$0 "}, {"GETRANGE k 6 9", "$0 "}, {"GETRANGE k -9 -7", "$0 "}, {"GETRANGE k 0 x", "-number"},
		{"INCR k", "-number"}, {"INCRBY k 1", "-number"}, {"SET k 5", "+OK"}, {"INCR k", ":6"}, {"INCRBY k -7", ":-1"}, {"GET k", "$2 -1"}, {"INCR k", ":0"}, {"INCRBY k 0", ":0"},
		{"SET k 05", "+OK"}, {"INCR k", "-number"}, {"INCR n", ":1"}, {"INCRBY m -1000000000", ":-1000000000"}, {"APPEND a x", ":1"}, {"APPEND e ", ":0"}, {"EXISTS e", ":1"},
		{"KEYS *", "*5 $1 a $1 e $1 k $1 m $1 n"},
	})
	checkSteps(t, b, []step{{"EXPIRE k 5", ":1"}, {"SET k 7", "+OK"}, {"TTL k", ":-1"}, {"EXPIRE k 5", ":1"}, {"INCR k", ":8"}, {"APPEND k 8", ":2"}, {"INCRBY k 1", ":89"}, {"TTL k", ":5"}})
}

func TestListOrders(t *testing.T) {
	checkSteps(t, impl.Base{Now: 10}, []step{
		{"LPOP l", "$-1"}, {"RPOP l", "$-1"}, {"LLEN l", ":0"}, {"LRANGE l 0 -1", "*0"}, {"LTRIM l 0 -1", "+OK"}, {"LSET l 0 x", "-place"}, {"LREM l 0 x", ":0"}, {"DBSIZE", ":0"},
		{"RPUSH l a b", ":2"}, {"LPUSH l c d", ":4"}, {"LRANGE l 0 -1", "*4 $1 d $1 c $1 a $1 b"}, {"LRANGE l 1 -2", "*2 $1 c $1 a"}, {"LRANGE l 2 1", "*0"}, {"TYPE l", "$4 list"},
		{"LSET l -1 a", "+OK"}, {"LSET l 4 x", "-place"}, {"LSET l -5 x", "-place"}, {"LSET l x x", "-number"}, {"LREM l -1 a", ":1"}, {"LRANGE l 0 -1", "*3 $1 d $1 c $1 a"},
		{"RPUSH l a a ", ":6"}, {"LREM l 2 a", ":2"}, {"LREM l 0 z", ":0"}, {"LRANGE l 0 -1", "*4 $1 d $1 c $1 a $0 "}, {"EXPIRE l 9", ":1"},
		{"LPOP l", "$1 d"}, {"RPOP l", "$0 "}, {"TTL l", ":9"}, {"LTRIM l 1 1", "+OK"}, {"LLEN l", ":1"}, {"TTL l", ":9"}, {"RPOP l", "$1 a"}, {"EXISTS l", ":0"}, {"TTL l", ":-2"}, {"RPUSH l n", ":1"}, {"TTL l", ":-1"},
	})
}

// What becomes empty is gone, by each order that takes something away; what comes then under its key is for ever.
func TestWhatBecomesEmptyIsGone(t *testing.T) {
	for _, last := range []struct {
		kind   int
		orders []string
	}{
		{impl.IsList, []string{"LPOP k", "RPOP k", "LTRIM k 1 0", "LTRIM k 1 5", "LTRIM k -3 -2", "LREM k 0 a", "LREM k 1 a", "LREM k -5 a"}},
		{impl.IsSet, []string{"SREM k a", "SREM k x a a"}},
		{impl.IsScores, []string{"ZREM k a"}},
		{impl.IsFields, []string{"HDEL k a"}},
		{impl.IsText, []string{"DEL k", "EXPIRE k 0", "EXPIRE k -1", "EXPIREAT k 7", "EXPIREAT k 0", "FLUSH"}},
	} {
		for _, order := range last.orders {
			e := oneOfKind("k", last.kind)
			e.Until = 50
			b := withEntry(manyEntries(11, 7), e)
			got, reply := checkDo(t, b, line(order))
			if _, there := impl.BaseGet(got, "k"); there || reply.Kind == impl.ReplyErr {
				t.Errorf("%s: it is there, %+v", order, reply)
			}
			if order != "FLUSH" && !sameBase(got, withoutKeys(b, "k")) {
				t.Errorf("%s: %+v", order, got)
			}
			if _, reply := impl.Do(doLines(t, got, "RPUSH k n"), line("TTL k")); !sameReply(reply, numberReply(-1)) {
				t.Errorf("%s: what is new stays for %+v", order, reply)
			}
		}
	}
}

func TestSetOrders(t *testing.T) {
	checkSteps(t, impl.Base{}, []step{
		{"SMEMBERS s", "*0"}, {"SCARD s", ":0"}, {"SISMEMBER s a", ":0"}, {"SREM s a", ":0"}, {"SINTER s s", "*0"}, {"SUNION s r", "*0"}, {"SDIFF s r", "*0"}, {"DBSIZE", ":0"},
		{"SADD s b a b", ":2"}, {"SADD s a c ", ":2"}, {"SMEMBERS s", "*4 $0  $1 a $1 b $1 c"}, {"SCARD s", ":4"}, {"SISMEMBER s ", ":1"}, {"SISMEMBER s d", ":0"}, {"TYPE s", "$3 set"},
		{"SADD r c d", ":2"}, {"SINTER s r", "*1 $1 c"}, {"SUNION r s", "*5 $0  $1 a $1 b $1 c $1 d"}, {"SDIFF s r", "*3 $0  $1 a $1 b"}, {"SDIFF r s", "*1 $1 d"}, {"SDIFF s none", "*4 $0  $1 a $1 b $1 c"}, {"SINTER none s", "*0"}, {"SUNION none r", "*2 $1 c $1 d"}, {"SDIFF s s", "*0"},
		{"EXPIRE s 3", ":1"}, {"SREM s a a x", ":1"}, {"SADD s b", ":0"}, {"TTL s", ":3"}, {"SREM s b c ", ":3"}, {"TYPE s", "$4 none"},
	})
}

func TestScoreOrders(t *testing.T) {
	checkSteps(t, impl.Base{}, []step{
		{"ZREM z a", ":0"}, {"ZSCORE z a", "$-1"}, {"ZRANK z a", "$-1"}, {"ZCARD z", ":0"}, {"ZRANGE z 0 -1", "*0"}, {"ZRANGEBYSCORE z -9 9", "*0"}, {"DBSIZE", ":0"},
		{"ZADD z 5 b", ":1"}, {"ZADD z 2 c", ":1"}, {"ZINCRBY z 3 c", ":5"}, {"ZINCRBY z -1 a", ":-1"}, {"ZADD z 5 b", ":0"}, {"ZRANGE z 0 -1", "*3 $1 a $1 b $1 c"}, {"TYPE z", "$4 zset"},
		{"ZRANK z a", ":0"}, {"ZRANK z c", ":2"}, {"ZSCORE z a", ":-1"}, {"ZSCORE z d", "$-1"}, {"ZRANK z d", "$-1"}, {"ZCARD z", ":3"}, {"ZADD z -9 c", ":0"}, {"ZRANGE z -3 -3", "*1 $1 c"}, {"ZRANGE z 1 99", "*2 $1 a $1 b"}, {"ZRANGE z 2 1", "*0"},
		{"ZRANGEBYSCORE z -9 -1", "*2 $1 c $1 a"}, {"ZRANGEBYSCORE z -8 5", "*2 $1 a $1 b"}, {"ZRANGEBYSCORE z 1 0", "*0"}, {"ZRANGEBYSCORE z 0 x", "-number"}, {"ZRANGE z x 0", "-number"}, {"ZADD z 1000000001 a", "-number"},
		{"EXPIRE z 3", ":1"}, {"ZADD z 1 ", ":1"}, {"ZREM z a", ":1"}, {"ZREM z a", ":0"}, {"ZINCRBY z 1 b", ":6"}, {"TTL z", ":3"}, {"ZREM z b", ":1"}, {"ZREM z c", ":1"}, {"ZCARD z", ":1"}, {"ZREM z ", ":1"}, {"TTL z", ":-2"},
	})
}

func TestFieldOrders(t *testing.T) {
	checkSteps(t, impl.Base{}, []step{
		{"HGET h f", "$-1"}, {"HDEL h f", ":0"}, {"HGETALL h", "*0"}, {"HLEN h", ":0"}, {"DBSIZE", ":0"},
		{"HSET h f v", ":1"}, {"HSET h f ", ":0"}, {"HGET h f", "$0 "}, {"HINCRBY h f 1", "-number"}, {"HSET h  e", ":1"}, {"HGET h ", "$1 e"}, {"HGETALL h", "*4 $0  $1 e $1 f $0 "}, {"HLEN h", ":2"}, {"TYPE h", "$4 hash"},
		{"HINCRBY h n -5", ":-5"}, {"HINCRBY h n 7", ":2"}, {"HGET h n", "$1 2"}, {"HINCRBY h n x", "-number"}, {"HINCRBY h f x", "-number"}, {"HSET h f 07", ":0"}, {"HINCRBY h f 1", "-number"},
		{"EXPIRE h 3", ":1"}, {"HSET h g w", ":1"}, {"HINCRBY h n 1", ":3"}, {"HDEL h g", ":1"}, {"HDEL h g", ":0"}, {"TTL h", ":3"}, {"HDEL h f", ":1"}, {"HDEL h n", ":1"}, {"HDEL h ", ":1"}, {"EXISTS h", ":0"}, {"HINCRBY m n 4", ":4"}, {"TYPE m", "$4 hash"},
	})
}

func TestOrdersOfAnyKind(t *testing.T) {
	checkSteps(t, impl.Base{Now: 10}, []step{
		{"DEL k", ":0"}, {"EXISTS k k", ":0"}, {"TYPE k", "$4 none"}, {"TTL k", ":-2"}, {"PERSIST k", ":0"}, {"EXPIRE k 5", ":0"}, {"EXPIREAT k 15", ":0"}, {"EXPIRE k 0", ":0"}, {"RENAME k l", "-none"}, {"RENAME k k", "-none"}, {"KEYS *", "*0"}, {"DBSIZE", ":0"}, {"FLUSH", "+OK"},
		{"SET k v", "+OK"}, {"RPUSH l a", ":1"}, {"EXISTS k l k n", ":3"}, {"DBSIZE", ":2"}, {"PERSIST k", ":0"}, {"EXPIRE k 5", ":1"}, {"TTL k", ":5"}, {"EXPIREAT k 11", ":1"}, {"TTL k", ":1"}, {"PERSIST k", ":1"}, {"PERSIST k", ":0"}, {"TTL k", ":-1"},
		{"EXPIRE k x", "-number"}, {"EXPIREAT k x", "-number"}, {"EXPIRE l 7", ":1"}, {"RENAME l k", "+OK"}, {"TYPE k", "$4 list"}, {"TTL k", ":7"}, {"TYPE l", "$4 none"}, {"RENAME k k", "+OK"}, {"TTL k", ":7"}, {"LRANGE k 0 -1", "*1 $1 a"},
		{"SET k2 v", "+OK"}, {"KEYS k?", "*1 $2 k2"}, {"KEYS ", "*0"}, {"KEYS k*", "*2 $1 k $2 k2"}, {"KEYS kkkkkkkkkkkkk", "*0"}, {"KEYS *************", "*0"}, {"DEL k k2 k n", ":2"}, {"DBSIZE", ":0"},
		{"SADD s a", ":1"}, {"SET s v", "+OK"}, {"TYPE s", "$6 string"}, {"FLUSH", "+OK"}, {"DBSIZE", ":0"}, {"GET s", "$-1"},
	})
}

// Errors are told in this order: unknown, words, then key by key key and kind, then numbers. All that comes behind is wrong, too.
func TestErrorsInOrder(t *testing.T) {
	b := impl.Base{Now: 5}
	for kind := 1; kind <= 5; kind++ {
		b.Entries = append(b.Entries, oneOfKind("k"+strconv.Itoa(kind), kind))
	}
	for _, o := range allOrders() {
		words := len(strings.TrimSuffix(o.form, "+"))
		counts := []int{words}
		if words < len(o.form) {
			counts = []int{words, words + 1, 7}
		}
		for _, count := range counts {
			letters, _ := o.lettersFor(count)
			checkErrorsOf(t, b, o, letters)
		}
		checkWordCounts(t, b, o)
	}
}

// wrongWord is none of what its letter wants, if it can be.
func wrongWord(letter byte) string {
	switch letter {
	case 'K':
		return longKey
	case 'N':
		return "x"
	}
	return "a"
}

func checkErrorsOf(t *testing.T, b impl.Base, o told, letters string) {
	t.Helper()
	all := []string{o.word}
	for i := range len(letters) {
		all = append(all, wrongWord(letters[i]))
	}
	refused := func(args []string, word string) {
		t.Helper()
		if got, reply := checkDo(t, b, args); !isError(reply, word) || !sameBase(got, b) {
			t.Fatalf("%q: %+v, not %s", args, reply, word)
		}
	}
	for _, letter := range "KN" {
		for i := range len(letters) {
			if letters[i] != byte(letter) {
				continue
			}
			if letter == 'N' {
				refused(all, "number")
			}
			if letter == 'K' {
				checkKeyErrors(o, all, i+1, refused)
			}
			all[i+1] = rightWord(o, letters[i])
		}
	}
	if _, reply := checkDo(t, b, all); reply.Kind == impl.ReplyErr && o.word != "INCR" && o.word != "INCRBY" && o.word != "RENAME" {
		t.Fatalf("%q: %+v", all, reply)
	}
}

// checkKeyErrors puts all that is no key, and keys of other kinds, in the place of a key.
func checkKeyErrors(o told, all []string, at int, refused func([]string, string)) {
	for _, key := range []string{longKey, "", longest} {
		args := slices.Clone(all)
		args[at] = key
		refused(args, "key")
	}
	for kind := 1; kind <= 5 && o.kind != 0; kind++ {
		args := slices.Clone(all)
		args[at] = "k" + strconv.Itoa(kind)
		if kind != o.kind {
			refused(args, "kind")
		}
	}
}

// checkWordCounts is of all numbers of words from 0 to 7, all of them wrong; and of words that are nearly the order's.
func checkWordCounts(t *testing.T, b impl.Base, o told) {
	t.Helper()
	for count := range 8 {
		args := append([]string{o.word}, slices.Repeat([]string{longKey}, count)...)
		_, reply := checkDo(t, b, args)
		if _, fit := o.lettersFor(count); isError(reply, "words") == fit {
			t.Fatalf("%q: %+v", args, reply)
		}
		for _, word := range []string{"", strings.ToLower(o.word), o.word + " ", " " + o.word, o.word[1:], o.word + "X", "*"} {
			args[0] = word
			if _, known := orderOf(word); known {
				continue
			}
			if _, reply := checkDo(t, b, args); !isError(reply, "unknown") {
				t.Fatalf("%q: %+v", args, reply)
			}
			if impl.Changes(args) || len(impl.Keys(args)) != 0 {
				t.Fatalf("%q changes, or has keys", args)
			}
		}
	}
}

// Of two keys the first is told whole ahead of the second; a number is told ahead of all that could be behind.
func TestErrorsInOrderByHand(t *testing.T) {
	b := doLines(t, impl.Base{}, "SADD s a", "SET t x", "RPUSH l a", "SET n 1000000000", "HSET h f x", "SADD s2 b")
	checkSteps(t, b, []step{
		{"SINTER t ", "-kind"}, {"SINTER  t", "-key"}, {"SINTER s ", "-key"}, {"SINTER s t", "-kind"}, {"SUNION none t", "-kind"}, {"SDIFF kkkkkkkkkkkkk t", "-key"}, {"SDIFF t kkkkkkkkkkkkk", "-kind"},
		{"RENAME none ", "-key"}, {"RENAME  none", "-key"}, {"RENAME none none", "-none"}, {"DEL s ", "-key"}, {"DEL s  t", "-key"}, {"EXISTS  ", "-key"}, {"DBSIZE", ":6"},
		{"LSET t 9 x", "-kind"}, {"LSET l x x", "-number"}, {"LSET l 9 x", "-place"}, {"LRANGE l 0 x", "-number"}, {"LRANGE l x 0", "-number"}, {"LTRIM l 9 x", "-number"}, {"LLEN l", ":1"}, {"EXPIRE none x", "-number"}, {"EXPIRE none 1000001", "-number"}, {"EXPIREAT none 2000001", "-number"},
		{"INCR n", "-number"}, {"INCRBY t x", "-number"}, {"INCRBY t 1", "-number"}, {"HINCRBY h f x", "-number"}, {"HINCRBY t f x", "-kind"}, {"GET", "-words"}, {"GET ", "-key"}, {"get ", "-unknown"}, {"", "-unknown"}, {" GET", "-unknown"}, {"FLUSH x", "-words"}, {"KEYS", "-words"}, {"KEYS a b", "-words"}, {"RENAME t", "-words"},
	})
}

// A full base refuses what would be new, by each order that makes something, and by nothing else.
func TestFull(t *testing.T) {
	makers := []string{"SET new v", "SET new ", "APPEND new v", "APPEND new ", "INCR new", "INCRBY new 5", "LPUSH new a", "RPUSH new a b c d e f", "SADD new a a", "ZADD new 1 a", "ZINCRBY new 1 a", "HSET new f v", "HINCRBY new f 1"}
	others := []string{"GET new", "STRLEN new", "LPOP new", "RPOP new", "LTRIM new 0 1", "LREM new 0 a", "SREM new a", "ZREM new a", "HDEL new a", "DEL new", "PERSIST new", "EXPIRE new 5", "EXPIREAT new 50", "RENAME tA new", "RENAME tL tA", "RENAME tA tA", "SET tB v", "APPEND tA v", "RPUSH tB v", "SADD tC v", "ZADD tD 1 v", "HSET tE v v"}
	full, room := manyEntries(12, 3), manyEntries(11, 3)
	for _, order := range makers {
		if got, reply := checkDo(t, full, line(order)); !isError(reply, "full") || !sameBase(got, full) {
			t.Errorf("%s: %+v", order, reply)
		}
		if got, reply := checkDo(t, room, line(order)); reply.Kind == impl.ReplyErr || len(got.Entries) != 12 {
			t.Errorf("%s, with room for one: %+v", order, reply)
		}
	}
	for _, order := range others {
		if _, reply := checkDo(t, full, line(order)); reply.Kind == impl.ReplyErr {
			t.Errorf("%s: %+v", order, reply)
		}
	}
	checkSteps(t, full, []step{{"LSET new 0 a", "-place"}, {"RENAME new tA", "-none"}, {"ZADD new x a", "-number"}, {"HINCRBY new f x", "-number"}, {"INCRBY new x", "-number"}, {"DBSIZE", ":12"}})
}

// Each limit is met exactly, and one more is refused.
func TestLimitsOfOrders(t *testing.T) {
	text39, full := longest[:39], strings.Join(many(16), " ")
	b := impl.Base{Now: 3, Entries: byKey([]impl.Entry{
		{Key: "l", Kind: impl.IsList, List: many(15)}, {Key: "s", Kind: impl.IsSet, List: many(15)}, {Key: "z", Kind: impl.IsScores, Scores: manyScores(15)}, {Key: "h", Kind: impl.IsFields, Fields: manyFields(15)}, {Key: "t", Kind: impl.IsText, Text: text39},
	})}
	checkSteps(t, b, []step{
		{"SET " + longestKey + " v", "+OK"}, {"GET " + longestKey, "$1 v"}, {"SET " + longKey + " v", "-key"}, {"KEYS " + longestKey, "*1 $12 " + longestKey}, {"KEYS " + longKey, "*0"}, {"DEL " + longestKey, ":1"},
		{"APPEND t mm", "-long"}, {"APPEND t m", ":40"}, {"APPEND t m", "-long"}, {"APPEND t ", ":40"}, {"APPEND new " + longest, ":40"}, {"STRLEN new", ":40"}, {"SET new " + longest, "+OK"}, {"GETRANGE new 39 39", "$1 m"}, {"GETRANGE new 40 40", "$0 "},
		{"RPUSH l x y", "-long"}, {"LPUSH l x y", "-long"}, {"RPUSH l tP", ":16"}, {"LPUSH l x", "-long"}, {"RPUSH l x", "-long"}, {"LRANGE l 0 -1", "*16 $2 " + strings.ReplaceAll(full, " ", " $2 ")}, {"LSET l 15 tP", "+OK"}, {"LSET l 16 x", "-place"}, {"LSET l -16 tA", "+OK"}, {"LSET l -17 x", "-place"},
		{"SADD s x y", "-long"}, {"SADD s tP tP", ":1"}, {"SADD s x", "-long"}, {"SADD s tA tB", ":0"}, {"SADD s tA x", "-long"}, {"SCARD s", ":16"}, {"SMEMBERS s", "*16 $2 " + strings.ReplaceAll(full, " ", " $2 ")},
		{"ZADD z 9 tP", ":1"}, {"ZADD z 9 x", "-long"}, {"ZADD z 8 tP", ":0"}, {"ZINCRBY z 1 x", "-long"}, {"ZINCRBY z 1 tP", ":9"}, {"ZCARD z", ":16"},
		{"HSET h tP v", ":1"}, {"HSET h x v", "-long"}, {"HSET h tP 5", ":0"}, {"HINCRBY h x 1", "-long"}, {"HINCRBY h tP 1", ":6"}, {"HLEN h", ":16"}, {"HINCRBY h x x", "-number"},
		{"RPUSH m a b c d e f", ":6"}, {"DEL a b c d e f m", ":1"}, {"EXISTS l l l l l l l", ":7"},
	})
}

func TestLimitsOfNumbers(t *testing.T) {
	checkSteps(t, impl.Base{}, []step{
		{"INCRBY n 999999999", ":999999999"}, {"INCR n", ":1000000000"}, {"INCR n", "-number"}, {"INCRBY n 1", "-number"}, {"INCRBY n 0", ":1000000000"}, {"INCRBY n 1000000001", "-number"}, {"GET n", "$10 1000000000"},
		{"INCRBY n -1000000000", ":0"}, {"INCRBY n -1000000000", ":-1000000000"}, {"INCRBY n -1", "-number"}, {"INCRBY n -1000000001", "-number"}, {"INCR n", ":-999999999"},
		{"ZINCRBY z 1000000000 a", ":1000000000"}, {"ZINCRBY z 1 a", "-long"}, {"ZINCRBY z 1000000000 a", "-long"}, {"ZSCORE z a", ":1000000000"}, {"ZINCRBY z -1000000000 b", ":-1000000000"}, {"ZINCRBY z -1 b", "-long"}, {"ZADD z -1000000000 a", ":0"}, {"ZADD z -1000000001 a", "-number"}, {"ZRANGEBYSCORE z -1000000000 1000000000", "*2 $1 a $1 b"},
		{"HINCRBY h f 1000000000", ":1000000000"}, {"HINCRBY h f 1", "-number"}, {"HINCRBY h f -1000000000", ":0"}, {"HINCRBY h g -1000000000", ":-1000000000"}, {"HINCRBY h g -1", "-number"}, {"HGET h g", "$11 -1000000000"},
		{"SET n 1000000001", "+OK"}, {"INCRBY n -1", "-number"}, {"RPUSH l a", ":1"}, {"LRANGE l -1000000000 1000000000", "*1 $1 a"}, {"LRANGE l 0 1000000001", "-number"}, {"LREM l -1000000000 b", ":0"}, {"LREM l -1000000001 b", "-number"}, {"GETRANGE n -1000000000 1000000000", "$10 1000000001"},
	})
}

func TestLimitsOfTimes(t *testing.T) {
	for _, now := range []int{0, 7, lastTime} {
		b := doLines(t, impl.Base{Now: now}, "SET k v")
		soon := strconv.Itoa(now + 1)
		here := strconv.Itoa(now)
		b = checkSteps(t, b, []step{{"EXPIRE k 1000000", ":1"}, {"TTL k", ":1000000"}, {"EXPIRE k 1000001", "-number"}, {"TTL k", ":1000000"}, {"EXPIREAT k 2000000", ":1"}, {"TTL k", ":" + strconv.Itoa(2*lastTime-now)}, {"EXPIREAT k 2000001", "-number"}, {"EXPIREAT k " + soon, ":1"}, {"TTL k", ":1"}})
		for _, order := range []string{"EXPIREAT k " + here, "EXPIREAT k 0", "EXPIREAT k -1", "EXPIREAT k -1000000000", "EXPIRE k 0", "EXPIRE k -1", "EXPIRE k -" + soon, "EXPIRE k -1000000000"} {
			checkSteps(t, b, []step{{order, ":1"}, {"TTL k", ":-2"}, {order, ":0"}})
		}
		if now > 0 {
			checkSteps(t, b, []step{{"EXPIRE k -" + here, ":1"}, {"EXISTS k", ":0"}})
		}
	}
}

// notOrders are words that are no order.
func notOrders() [][]string {
	nine := append([]string{"DEL"}, slices.Repeat([]string{"k"}, 8)...)
	return [][]string{nil, {}, nine, {"SET", "k", tooLong}, {tooLong}, {"GET", tooLong}, {"FLUSH", tooLong}, append([]string{"RPUSH"}, many(16)...), {"NONE", "a", tooLong}}
}

func TestDoOfWhatIsNotOk(t *testing.T) {
	for _, b := range wrongBases() {
		for _, args := range [][]string{{"DBSIZE"}, {"SET", "k", "v"}, {"FLUSH"}, {"NONE"}, {"GET"}, {"DEL", "k", "a", "tA"}, nil} {
			if got, reply := impl.Do(b, args); !isError(reply, "base") || !isNothing(got) {
				t.Errorf("not ok, %q to %+v: %+v, %+v", args, b, got, reply)
			}
		}
	}
	for _, args := range notOrders() {
		if got, reply := impl.Do(manyEntries(3, 5), args); !isError(reply, "base") || !isNothing(got) {
			t.Errorf("no order, %q: %+v, %+v", args, got, reply)
		}
		if impl.Changes(args) || len(impl.Keys(args)) != 0 {
			t.Errorf("no order, %q: it changes, or has keys", args)
		}
	}
	longestOrder := []string{"RPUSH", "k", longest, longest, "", "\x00", "\r\n", longest}
	if got, reply := impl.Do(impl.Base{}, longestOrder); !sameReply(reply, numberReply(6)) || !slices.Equal(got.Entries[0].List, longestOrder[2:]) {
		t.Errorf("%+v, %+v", got, reply)
	}
}

func TestChanges(t *testing.T) {
	for _, o := range allOrders() {
		for count := range 8 {
			args := append([]string{o.word}, slices.Repeat([]string{longest}, count)...)
			if impl.Changes(args) != o.changes {
				t.Errorf("%q: %v", args, !o.changes)
			}
		}
	}
}

func TestKeys(t *testing.T) {
	words := []string{"a", "", longKey, "a", "5", "b", "a"}
	for _, o := range allOrders() {
		for count := range 8 {
			letters, fit := o.lettersFor(count)
			var want []string
			for i := range count {
				if fit && letters[i] == 'K' {
					want = append(want, words[i])
				}
			}
			args := append([]string{o.word}, words[:count]...)
			if got := impl.Keys(args); !slices.Equal(got, want) {
				t.Errorf("%q: %q, not %q", args, got, want)
			}
		}
	}
}
