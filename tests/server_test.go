package tests

import (
	"math"
	"slices"
	"strings"
	"testing"

	"loop.example/quincunx/impl"
)

func TestServerNew(t *testing.T) {
	for clients := 1; clients <= 3; clients++ {
		if s := impl.ServerNew(clients); !sameServer(s, newServer(clients)) || !impl.ServerOk(s) {
			t.Errorf("%d: %+v", clients, s)
		}
	}
	for _, clients := range []int{0, -1, 4, 5, 1000, math.MinInt, math.MaxInt} {
		if s := impl.ServerNew(clients); !isNoServer(s) || impl.ServerOk(s) {
			t.Errorf("%d: %+v", clients, s)
		}
	}
}

func TestServerOk(t *testing.T) {
	for i, s := range rightServers(t) {
		if !impl.ServerOk(s) || !modelServerOk(s) {
			t.Errorf("right %d: %+v", i, s)
		}
	}
	for i, s := range wrongServers(t) {
		if impl.ServerOk(s) {
			t.Errorf("wrong %d: %+v", i, s)
		}
	}
	c := chance(110)
	for range 300 {
		if s := anyServer(c, 40); !impl.ServerOk(s) {
			t.Fatalf("%+v", s)
		}
	}
}

// A file of FileMax bytes may be, one byte more may not.
func TestServerOkOfAFullFile(t *testing.T) {
	for left := -3; left <= 3; left++ {
		s := fileWithLeft(t, left)
		if len(s.File) != 6000-left || impl.ServerOk(s) != (left >= 0) {
			t.Errorf("%d bytes: %t", len(s.File), impl.ServerOk(s))
		}
	}
}

func checkNoServer(t *testing.T, s impl.Server, client int, args []string) {
	t.Helper()
	got, reply, messages := impl.ServerDo(s, client, args)
	if !isNoServer(got) || !isError(reply, "server") || len(messages) != 0 {
		t.Fatalf("%d %q to %+v: %+v, %+v, %+v", client, args, s, got, reply, messages)
	}
	for _, bytes := range []int{-1, 0, 10, math.MaxInt} {
		if got := impl.ServerFall(s, client, args, bytes); !isNoServer(got) {
			t.Fatalf("a fall at %d %q, with %d bytes, of %+v: %+v", client, args, bytes, s, got)
		}
	}
}

func TestServersThatAreNotOk(t *testing.T) {
	for _, s := range wrongServers(t) {
		for _, order := range []string{"SET k v", "GET k", "MULTI", "EXEC", "DISCARD", "WATCH k", "UNWATCH", "SUBSCRIBE k", "PUBLISH k v", "NONE"} {
			checkNoServer(t, s, 0, line(order))
		}
		for _, ticks := range []int{-1, 0, 1, 5, lastTime} {
			if got := impl.ServerTick(s, ticks); !isNoServer(got) {
				t.Fatalf("%d ticks of %+v: %+v", ticks, s, got)
			}
		}
		if got, ok := impl.ServerLess(s); ok || !isNoServer(got) {
			t.Fatalf("a shorter file of %+v: %+v, %t", s, got, ok)
		}
	}
}

func TestClientsThatAreNoneAndNoOrders(t *testing.T) {
	for _, s := range rightServers(t) {
		for _, client := range []int{-1, len(s.Clients), len(s.Clients) + 1, math.MinInt, math.MaxInt} {
			for _, order := range []string{"SET k v", "MULTI", "EXEC", "WATCH k", "SUBSCRIBE k", "PUBLISH k v", "NONE"} {
				checkNoServer(t, s, client, line(order))
			}
		}
		for client := range s.Clients {
			for _, args := range append(notOrders(), []string{"WATCH", tooLong}, []string{"SUBSCRIBE", tooLong}, []string{"PUBLISH", "a", tooLong}, []string{"EXEC", tooLong}) {
				checkNoServer(t, s, client, args)
			}
		}
	}
}

// All orders, of all kinds of clients, are as the model has them.
func TestServerDoOfRightServers(t *testing.T) {
	for _, s := range rightServers(t) {
		for client := range s.Clients {
			for _, o := range allOrders() {
				for _, key := range []string{"k", "l", "tB", "new", longKey} {
					checkServerDo(t, s, client, orderAbout(o, key))
				}
			}
			for _, order := range []string{"MULTI", "EXEC", "DISCARD", "WATCH", "UNWATCH", "WATCH k", "WATCH a b c", "WATCH ", "SUBSCRIBE ", "SUBSCRIBE new", "UNSUBSCRIBE ", "UNSUBSCRIBE b", "PUBLISH  x", "PUBLISH b ", "PUBLISH z z", "NONE", ""} {
				checkServerDo(t, s, client, line(order))
			}
		}
	}
}

func TestServerDoOfAnyPlay(t *testing.T) {
	c := chance(111)
	replies := map[string]int{}
	for range 150 {
		s := newServer(1 + c.IntN(3))
		orders := someOrders(c)
		for range 50 {
			if c.IntN(10) == 0 {
				s = checkServerTick(t, s, c.IntN(5)-1)
				continue
			}
			client, args := c.IntN(len(s.Clients)), anyServerOrder(c, orders)
			next, reply, _ := checkServerDo(t, s, client, args)
			s = next
			if reply.Kind == impl.ReplyErr {
				replies[reply.Text]++
			} else {
				replies[args[0]]++
			}
		}
	}
	for _, word := range []string{"MULTI", "EXEC", "DISCARD", "WATCH", "UNWATCH", "SUBSCRIBE", "UNSUBSCRIBE", "PUBLISH", "gathers", "alone", "gathered", "words", "long", "key", "unknown", "kind", "number"} {
		if replies[word] == 0 {
			t.Errorf("%s never came", word)
		}
	}
}

// The words of a server's own orders, without Multi, and with it.
func TestWordsOfServerOrders(t *testing.T) {
	for _, c := range []struct {
		order string
		reply string
		multi string
	}{
		{"MULTI", "+OK", "-gathers"},
		{"MULTI x", "-unknown", "-words"},
		{"MULTI ", "-unknown", "-words"},
		{"multi", "-unknown", "-words"},
		{"EXEC", "-alone", "*0"},
		{"EXEC x", "-unknown", "-words"},
		{"DISCARD", "-alone", "+OK"},
		{"DISCARD x", "-unknown", "-words"},
		{"WATCH", "-words", "-gathers"},
		{"WATCH k", "+OK", "-gathers"},
		{"WATCH ", "-key", "-key"},
		{"WATCH k ", "-key", "-key"},
		{"WATCH " + longestKey, "+OK", "-gathers"},
		{"WATCH " + longKey, "-key", "-key"},
		{"WATCH a b c d e " + longKey, "-key", "-key"},
		{"WATCH a b c d", "+OK", "-gathers"},
		{"WATCH a b c d e", "-long", "-gathers"},
		{"WATCH a b a b a b a", "+OK", "-gathers"},
		{"UNWATCH", "+OK", "-words"},
		{"UNWATCH k", "-unknown", "-words"},
		{"SUBSCRIBE", "-unknown", "-words"},
		{"SUBSCRIBE w", ":1", "-words"},
		{"SUBSCRIBE ", ":1", "-words"},
		{"SUBSCRIBE w x", "-unknown", "-words"},
		{"UNSUBSCRIBE", "-unknown", "-words"},
		{"UNSUBSCRIBE w", ":0", "-words"},
		{"UNSUBSCRIBE w x", "-unknown", "-words"},
		{"PUBLISH", "-unknown", "-words"},
		{"PUBLISH w", "-unknown", "-words"},
		{"PUBLISH w t", ":0", "-words"},
		{"PUBLISH w t t", "-unknown", "-words"},
		{"GET k", "$-1", "$6 QUEUED"},
		{"GET", "-words", "-words"},
		{"GET k k", "-words", "-words"},
		{"NONE", "-unknown", "-words"},
		{"SET k v", "+OK", "$6 QUEUED"},
		{"SET k", "-words", "-words"},
		{"INCRBY k x", "-number", "$6 QUEUED"},
		{"GET " + longKey, "-key", "$6 QUEUED"},
		{"RENAME a b", "-none", "$6 QUEUED"},
		{"DBSIZE", ":0", "$6 QUEUED"},
		{"DBSIZE x", "-words", "-words"},
	} {
		checkTurns(t, newServer(2), turn{1, c.order, c.reply})
		s := checkTurns(t, newServer(2), turn{1, "MULTI", "+OK"}, turn{1, c.order, c.multi})
		if wrong := c.multi == "-words"; s.Clients[1].Wrong != wrong {
			t.Errorf("%s with Multi: Wrong is %t", c.order, s.Clients[1].Wrong)
		}
		gathers := c.order != "EXEC" && c.order != "DISCARD"
		if s.Clients[1].Multi != gathers {
			t.Errorf("%s with Multi: Multi is %t", c.order, s.Clients[1].Multi)
		}
		if !sameBase(s.Base, impl.Base{}) || s.File != "" {
			t.Errorf("%s with Multi is done: %+v", c.order, s)
		}
	}
}

// WatchMax keys are watched, and one more is refused; those that are watched may be told again.
func TestWatchMax(t *testing.T) {
	s := checkTurns(t, newServer(2), turn{0, "WATCH d b", "+OK"}, turn{0, "WATCH a", "+OK"}, turn{0, "WATCH c", "+OK"}, turn{0, "WATCH e", "-long"}, turn{0, "WATCH a b c d a b c", "+OK"}, turn{0, "WATCH a e", "-long"})
	if !slices.Equal(s.Clients[0].Watch, []string{"a", "b", "c", "d"}) || len(s.Clients[1].Watch) != 0 {
		t.Errorf("%+v", s.Clients)
	}
	s = checkTurns(t, s, turn{0, "UNWATCH", "+OK"}, turn{0, "WATCH e", "+OK"}, turn{1, "WATCH a b c d e", "-long"}, turn{1, "WATCH a b c e", "+OK"})
	if !slices.Equal(s.Clients[0].Watch, []string{"e"}) || !slices.Equal(s.Clients[1].Watch, []string{"a", "b", "c", "e"}) {
		t.Errorf("%+v", s.Clients)
	}
}

// QueueMax orders are gathered, and one more is refused; a wrong one is told ahead of one too many.
func TestQueueMax(t *testing.T) {
	s := checkTurns(t, newServer(1), turn{0, "MULTI", "+OK"})
	for range 6 {
		s = checkTurns(t, s, turn{0, "INCR n", "$6 QUEUED"})
	}
	if len(s.Clients[0].Queue) != 6 || s.Clients[0].Wrong {
		t.Fatalf("%+v", s.Clients[0])
	}
	all := slices.Repeat([]string{":1"}, 6)
	for i := range all {
		all[i] = ":" + string(rune('1'+i))
	}
	checkTurns(t, s, turn{0, "EXEC", "*6 " + strings.Join(all, " ")}, turn{0, "GET n", "$1 6"})
	checkTurns(t, s, turn{0, "INCR n", "-long"}, turn{0, "EXEC", "-gathered"}, turn{0, "GET n", "$-1"}, turn{0, "EXEC", "-alone"})
	checkTurns(t, s, turn{0, "INCR n n", "-words"}, turn{0, "INCR n", "-long"}, turn{0, "DISCARD", "+OK"}, turn{0, "INCR n", ":1"})
	checkTurns(t, s, turn{0, "MULTI", "-gathers"}, turn{0, "WATCH k", "-gathers"}, turn{0, "WATCH ", "-key"}, turn{0, "EXEC", "*6 " + strings.Join(all, " ")})
}

// An order that does not change anything, or replies an error, leaves the file; one that may change something is there, also if it does not.
func TestWhatStandsInTheFile(t *testing.T) {
	s := newServer(1)
	for _, c := range []struct {
		order string
		kept  string
	}{
		{"SET k 1", "SET k 1"},
		{"GET k", ""},
		{"INCR k", "INCR k"},
		{"LPUSH k x", ""},
		{"DEL none", "DEL none"},
		{"LPOP none", "LPOP none"},
		{"PERSIST k", "PERSIST k"},
		{"SET k", ""},
		{"NONE", ""},
		{"EXPIRE k 5", "EXPIREAT k 8"},
		{"EXPIRE k 1000000", "EXPIREAT k 1000003"},
		{"EXPIRE k 1000001", ""},
		{"EXPIRE none 5", "EXPIREAT none 8"},
		{"EXPIREAT k 9", "EXPIREAT k 9"},
		{"TTL k", ""},
		{"KEYS *", ""},
		{"EXPIRE k -4", "EXPIREAT k -1"},
		{"FLUSH", "FLUSH"},
		{"DBSIZE", ""},
		{"SUBSCRIBE k", ""},
		{"PUBLISH k v", ""},
		{"WATCH k", ""},
		{"UNWATCH", ""},
		{"MULTI", ""},
		{"DISCARD", ""},
	} {
		s = checkServerTick(t, s, 3-s.Base.Now)
		next, _, _ := checkServerDo(t, s, 0, line(c.order))
		want := s.File
		if c.kept != "" {
			want += at(3, c.kept).text()
		}
		if next.File != want {
			t.Fatalf("%s: the file is %q, not %q", c.order, next.File, want)
		}
		s = next
	}
}

// What is gathered stands as one record, without what does not change anything, and what replies an error.
func TestRecordOfWhatIsGathered(t *testing.T) {
	s := checkServerTick(t, doTurns(t, newServer(2), "0 RPUSH l a"), 4)
	behind := doTurns(t, s, "0 MULTI", "0 SET k 1", "0 GET k", "0 INCR l", "0 EXPIRE k 6", "0 INCR k", "0 TTL k", "0 EXEC")
	if want := s.File + at(4, "SET k 1", "EXPIREAT k 10", "INCR k").text(); behind.File != want {
		t.Errorf("%q, not %q", behind.File, want)
	}
	for _, gathered := range [][]string{nil, {"0 GET l"}, {"0 GET k", "0 INCR l", "0 LSET k 0 x", "0 KEYS *"}} {
		turns := slices.Concat([]string{"0 MULTI"}, gathered, []string{"0 EXEC"})
		if behind := doTurns(t, s, turns...); behind.File != s.File || !sameBase(behind.Base, s.Base) {
			t.Errorf("%q: %+v", gathered, behind)
		}
	}
}

// With a file that has just room for it an order is done, with one byte less it is not; what leaves the file is done all the same.
func TestFileWithoutRoom(t *testing.T) {
	for _, order := range []string{"SET k v", "APPEND g m", "EXPIRE f 5", "DEL f g", "SET f " + longest, "RPUSH l a b c d e f"} {
		size := len(at(0, strings.Join(fixedByHand(0, line(order)), " ")).text())
		for _, fits := range []bool{true, false} {
			left := size
			if !fits {
				left--
			}
			s := fileWithLeft(t, left)
			s.Clients[1].Watch = []string{"f", "k", "l"}
			next, reply, _ := checkServerDo(t, s, 0, line(order))
			if isError(reply, "file") == fits || sameServer(next, s) == fits || fits != (len(next.File) == 6000) {
				t.Errorf("%s with %d bytes left: %+v, %d bytes", order, left, reply, len(next.File))
			}
			if !fits {
				checkTurns(t, s, turn{0, "GET k", "$-1"}, turn{1, "NONE", "-unknown"}, turn{0, "LPUSH f x", "-kind"}, turn{0, "SUBSCRIBE w", ":1"}, turn{1, "MULTI", "+OK"}, turn{1, order, "$6 QUEUED"}, turn{1, "EXEC", "-file"}, turn{1, "EXEC", "-alone"})
			}
		}
	}
}

// EXEC with a file that has no room for all of it does nothing of it, and the client is free.
func TestExecWithoutRoom(t *testing.T) {
	orders := []string{"SET k 1", "GET k", "INCR k", "DEL k f"}
	size := len(at(0, "SET k 1", "INCR k", "DEL k f").text())
	for left := range size + 2 {
		s := fileWithLeft(t, left)
		s.Clients[1] = impl.Client{Watch: []string{"f"}, Hears: []string{"w"}}
		s.Clients[0] = impl.Client{Multi: true, Watch: []string{"k"}, Hears: []string{"w", "x"}}
		for _, order := range orders {
			s.Clients[0].Queue = append(s.Clients[0].Queue, line(order))
		}
		next, reply, _ := checkServerDo(t, s, 0, []string{"EXEC"})
		if !sameClient(next.Clients[0], impl.Client{Hears: []string{"w", "x"}}) {
			t.Fatalf("%d left: the client is not free: %+v", left, next.Clients[0])
		}
		if left >= size {
			if reply.Kind != impl.ReplyMany || len(next.Base.Entries) != 0 || !next.Clients[1].Touch || len(next.File) != 6000-left+size {
				t.Fatalf("%d left: %+v, %+v", left, reply, next)
			}
			continue
		}
		if !isError(reply, "file") || next.File != s.File || !sameBase(next.Base, s.Base) || next.Clients[1].Touch {
			t.Fatalf("%d left: %+v, %+v", left, reply, next)
		}
	}
}
