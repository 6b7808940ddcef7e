package tests

import (
	"fmt"
	"math"
	"runtime"
	"slices"
	"strings"
	"sync"
	"testing"
	"time"

	"loop.example/quincunx/impl"
)

// checkOthers is that all clients but one are as they were, but for Touch, that does not go away.
func checkOthers(t *testing.T, was impl.Server, is impl.Server, client int) {
	t.Helper()
	if len(was.Clients) != len(is.Clients) {
		t.Fatalf("%d clients, not %d", len(is.Clients), len(was.Clients))
	}
	for i, c := range was.Clients {
		next := is.Clients[i]
		if i == client {
			continue
		}
		if c.Touch && !next.Touch {
			t.Fatalf("client %d has no Touch any more: %+v", i, next)
		}
		if c.Touch = next.Touch; !sameClient(c, next) {
			t.Fatalf("client %d: %+v, not %+v", i, next, c)
		}
	}
}

// P39: the file says what the server has, whatever is done.
func TestP39ServerStaysOk(t *testing.T) {
	c := chance(112)
	longer, touched := 0, 0
	for range 1500 {
		s := withWatchers(c, anyServer(c, 30))
		client, args := c.IntN(len(s.Clients)), anyServerOrder(c, allOrders())
		got, reply, _ := impl.ServerDo(s, client, args)
		if !impl.ServerOk(got) || !modelServerOk(got) || !strings.HasPrefix(got.File, s.File) || got.Base.Now != s.Base.Now {
			t.Fatalf("%d %q to %+v: %+v, %+v", client, args, s, got, reply)
		}
		checkOthers(t, s, got, client)
		if len(got.File) > len(s.File) {
			longer++
		}
		if !slices.EqualFunc(s.Clients, got.Clients, func(a impl.Client, b impl.Client) bool { return a.Touch == b.Touch }) {
			touched++
		}
	}
	if longer < 200 || touched < 20 {
		t.Errorf("%d files are longer, %d times somebody is touched", longer, touched)
	}
}

// P40: an order of a client that gathers nothing is done as to the base.
func TestP40AsToTheBase(t *testing.T) {
	c := chance(113)
	done := 0
	for range 2000 {
		s := anyServer(c, 30)
		client, args := c.IntN(len(s.Clients)), anyLine(c, allOrders())
		if s.Clients[client].Multi || len(impl.Keys(args)) == 0 {
			continue
		}
		want, said := impl.Do(s.Base, args)
		got, reply, messages := impl.ServerDo(s, client, args)
		if !sameBase(got.Base, want) || !sameReply(reply, said) || len(messages) != 0 {
			t.Fatalf("%d %q to %+v: %+v, %+v, not %+v, %+v", client, args, s, got, reply, want, said)
		}
		checkOthers(t, s, got, -1)
		done++
	}
	if done < 500 {
		t.Errorf("%d done", done)
	}
}

// P40: or the error `file`, with nothing done, just if the file would be too long.
func TestP40OrTheErrorFile(t *testing.T) {
	c := chance(114)
	refused, done := 0, 0
	for range 1500 {
		s := fileWithLeft(t, c.IntN(90))
		args := anyLine(c, allOrders())
		if len(impl.Keys(args)) == 0 {
			continue
		}
		want, said := impl.Do(s.Base, args)
		got, reply, _ := impl.ServerDo(s, 0, args)
		if isError(reply, "file") {
			refused++
			if !sameServer(got, s) || said.Kind == impl.ReplyErr || !impl.Changes(args) || len(s.File)+len((saved{0, [][]string{impl.Fixed(0, args)}}).text()) <= 6000 {
				t.Fatalf("%q with %d bytes: %+v", args, len(s.File), got)
			}
			continue
		}
		done++
		if !sameBase(got.Base, want) || !sameReply(reply, said) || len(got.File) > 6000 {
			t.Fatalf("%q with %d bytes: %+v, %+v, not %+v, %+v", args, len(s.File), got, reply, want, said)
		}
	}
	if refused < 100 || done < 100 {
		t.Errorf("%d refused, %d done", refused, done)
	}
}

// freeServer is one whose clients gather and watch nothing.
func freeServer(s impl.Server) impl.Server {
	out := copyOfServer(s)
	for i, c := range out.Clients {
		out.Clients[i] = impl.Client{Hears: c.Hears}
	}
	return out
}

// P41: orders that a client gathered are done together.
func TestP41Together(t *testing.T) {
	c := chance(115)
	done := 0
	for range 1500 {
		s := freeServer(anyServer(c, 25))
		client := c.IntN(len(s.Clients))
		a, b := anyLine(c, allOrders()), anyLine(c, allOrders())
		gathers := checkTurns(t, s, turn{client, "MULTI", "+OK"})
		wrong := false
		for _, args := range [][]string{a, b} {
			next, reply, _ := checkServerDo(t, gathers, client, args)
			wrong = wrong || reply.Kind == impl.ReplyErr
			if !sameBase(next.Base, s.Base) || next.File != s.File {
				t.Fatalf("%q is done ahead of EXEC: %+v", args, next)
			}
			gathers = next
		}
		got, reply, _ := checkServerDo(t, gathers, client, []string{"EXEC"})
		if wrong {
			if !isError(reply, "gathered") || !sameServer(got, s) {
				t.Fatalf("%q, %q: %+v, %+v", a, b, reply, got)
			}
			continue
		}
		want, said := impl.DoAll(s.Base, [][]string{a, b})
		if !sameBase(got.Base, want) || !sameReply(reply, impl.Reply{Kind: impl.ReplyMany, Many: said}) {
			t.Fatalf("%q, %q to %+v: %+v, %+v, not %+v, %+v", a, b, s, got, reply, want, said)
		}
		checkOthers(t, s, got, -1)
		done++
	}
	if done < 500 {
		t.Errorf("%d done", done)
	}
}

// P41: orders that reply an error do not keep others from being done; one that is no order keeps all.
func TestP41OneThatIsWrong(t *testing.T) {
	s := doTurns(t, newServer(2), "0 SET t x", "0 RPUSH l a")
	checkTurns(t, s, turn{0, "MULTI", "+OK"}, turn{0, "INCR n", "$6 QUEUED"}, turn{0, "INCR t", "$6 QUEUED"}, turn{0, "GET l", "$6 QUEUED"}, turn{0, "LRANGE l 0 -1", "$6 QUEUED"}, turn{0, "SET n y", "$6 QUEUED"}, turn{0, "RENAME none n", "$6 QUEUED"},
		turn{0, "EXEC", "*6 :1 -number -kind *1 $1 a +OK -none"}, turn{1, "GET n", "$1 y"}, turn{0, "EXEC", "-alone"})
	for _, order := range []string{"NONE", "GET", "SET k v w", "UNWATCH", "SUBSCRIBE w", "PUBLISH w t", "EXEC x", "MULTI x", "DBSIZE 1", "get k", ""} {
		behind := checkTurns(t, s, turn{0, "MULTI", "+OK"}, turn{0, "INCR n", "$6 QUEUED"}, turn{0, order, "-words"}, turn{0, "INCR n", "$6 QUEUED"}, turn{0, "EXEC", "-gathered"})
		if !sameServer(behind, s) {
			t.Errorf("%s: %+v", order, behind)
		}
		checkTurns(t, behind, turn{0, "GET n", "$-1"}, turn{0, "MULTI", "+OK"}, turn{0, "INCR n", "$6 QUEUED"}, turn{0, "EXEC", "*1 :1"})
	}
	checkTurns(t, s, turn{0, "MULTI", "+OK"}, turn{0, "EXEC", "*0"})
	behind := checkTurns(t, s, turn{0, "SUBSCRIBE w", ":1"}, turn{0, "WATCH t", "+OK"}, turn{0, "MULTI", "+OK"}, turn{0, "INCR n", "$6 QUEUED"}, turn{0, "DISCARD", "+OK"}, turn{0, "GET n", "$-1"})
	if !sameClient(behind.Clients[0], impl.Client{Hears: []string{"w"}}) {
		t.Errorf("behind DISCARD: %+v", behind.Clients[0])
	}
}

// P41: one that gathered something wrong is told so, also if it was touched.
func TestP41WrongAheadOfTouch(t *testing.T) {
	checkTurns(t, newServer(2), turn{0, "WATCH k", "+OK"}, turn{0, "MULTI", "+OK"}, turn{0, "NONE", "-words"}, turn{1, "SET k v", "+OK"}, turn{0, "EXEC", "-gathered"})
}

// P42: what a client gathered is not done, if a key that it watches was touched meanwhile.
func TestP42Touched(t *testing.T) {
	c := chance(116)
	for range 800 {
		s := freeServer(anyServer(c, 25))
		if len(s.Clients) < 2 {
			continue
		}
		key := keyFor(c, 0)
		if !isKey(key) {
			continue
		}
		setter := 1 + c.IntN(len(s.Clients)-1)
		s, _, _ = checkServerDo(t, s, 0, []string{"WATCH", key})
		if c.IntN(2) == 0 {
			s, _, _ = checkServerDo(t, s, 0, []string{"MULTI"})
		}
		set, reply, _ := checkServerDo(t, s, setter, []string{"SET", key, "never so"})
		if reply.Kind == impl.ReplyErr {
			continue
		}
		if !s.Clients[0].Multi {
			set, _, _ = checkServerDo(t, set, 0, []string{"MULTI"})
		}
		gathers, _, _ := checkServerDo(t, set, 0, []string{"SET", "other", "x"})
		got, reply, _ := checkServerDo(t, gathers, 0, []string{"EXEC"})
		if !sameReply(reply, noneReply()) || !sameBase(got.Base, set.Base) || got.File != set.File || !sameClient(got.Clients[0], impl.Client{Hears: s.Clients[0].Hears}) {
			t.Fatalf("%q: %+v, %+v", key, reply, got)
		}
	}
}

// P42: what touches a key, and what does not; each is done behind WATCH, ahead of MULTI and behind it.
func TestP42WhatTouches(t *testing.T) {
	start := doTurns(t, newServer(2), "0 SET k 1", "0 RPUSH l a b", "0 SADD s a b", "0 ZADD z 1 a", "0 HSET h f 1", "0 SET other 2", "0 SET gone 1", "0 EXPIRE gone 3")
	for _, c := range []struct {
		key   string
		turns []string
		touch bool
	}{
		{"k", []string{"1 SET k 2"}, true},
		{"k", []string{"1 SET k 1"}, false},
		{"k", []string{"1 SET k 2", "1 SET k 1"}, true},
		{"k", []string{"1 MULTI", "1 SET k 2", "1 SET k 1", "1 EXEC"}, false},
		{"k", []string{"1 MULTI", "1 SET k 2", "1 EXEC"}, true},
		{"k", []string{"1 MULTI", "1 SET k 2"}, false},
		{"k", []string{"1 MULTI", "1 SET k 2", "1 DISCARD"}, false},
		{"k", []string{"1 APPEND k "}, false},
		{"k", []string{"1 INCRBY k 0"}, false},
		{"k", []string{"1 INCR k"}, true},
		{"k", []string{"1 GET k", "1 STRLEN k", "1 TTL k", "1 EXISTS k"}, false},
		{"k", []string{"1 MULTI", "1 LPUSH k x", "1 EXEC"}, false},
		{"k", []string{"1 DEL k"}, true},
		{"k", []string{"1 DEL k", "1 SET k 1"}, true},
		{"k", []string{"1 FLUSH"}, true},
		{"k", []string{"1 EXPIRE k 5"}, true},
		{"k", []string{"1 EXPIRE k 0"}, true},
		{"k", []string{"1 PERSIST k"}, false},
		{"k", []string{"1 RENAME k other"}, true},
		{"k", []string{"1 RENAME other k"}, true},
		{"k", []string{"1 RENAME k k"}, false},
		{"k", []string{"1 SET other 3"}, false},
		{"k", []string{"tick 2"}, false},
		{"k", []string{"tick 3"}, false},
		{"gone", []string{"tick 2"}, false},
		{"gone", []string{"tick 3"}, true},
		{"gone", []string{"tick 3", "1 SET gone 1"}, true},
		{"gone", []string{"1 PERSIST gone"}, true},
		{"gone", []string{"1 PERSIST gone", "tick 9"}, true},
		{"gone", []string{"1 EXPIREAT gone 3"}, false},
		{"none", []string{"1 SET none "}, true},
		{"none", []string{"1 DEL none"}, false},
		{"none", []string{"1 LPOP none"}, false},
		{"none", []string{"1 RENAME k none"}, true},
		{"none", []string{"1 MULTI", "1 SET none 1", "1 DEL none", "1 EXEC"}, false},
		{"none", []string{"tick 9"}, false},
		{"l", []string{"1 LSET l 0 a"}, false},
		{"l", []string{"1 LSET l 0 b"}, true},
		{"l", []string{"1 LTRIM l 0 -1"}, false},
		{"l", []string{"1 RPUSH l c"}, true},
		{"l", []string{"1 DEL l", "1 SADD l a b"}, true},
		{"l", []string{"1 MULTI", "1 DEL l", "1 SADD l a b", "1 EXEC"}, true},
		{"s", []string{"1 SADD s a"}, false},
		{"s", []string{"1 SREM s b"}, true},
		{"z", []string{"1 ZADD z 1 a"}, false},
		{"z", []string{"1 ZADD z 2 a"}, true},
		{"h", []string{"1 HSET h f 1"}, false},
		{"h", []string{"1 HSET h f 2"}, true},
	} {
		for _, multi := range []bool{false, true} {
			checkTouch(t, start, c.key, c.turns, c.touch, multi)
		}
	}
}

func checkTouch(t *testing.T, s impl.Server, key string, turns []string, touch bool, multi bool) {
	t.Helper()
	s = doTurns(t, s, "0 WATCH "+key+" never")
	if multi {
		s = doTurns(t, s, "0 MULTI", "0 SET mark 1")
	}
	for _, u := range turns {
		if ticks, ok := strings.CutPrefix(u, "tick "); ok {
			n, _ := numberByGo(ticks)
			s = checkServerTick(t, s, n)
		} else {
			s = doTurns(t, s, u)
		}
	}
	if s.Clients[0].Touch != touch {
		t.Fatalf("%s, %q: Touch is %t", key, turns, s.Clients[0].Touch)
	}
	if !multi {
		s = doTurns(t, s, "0 MULTI", "0 SET mark 1")
	}
	got, reply, _ := checkServerDo(t, s, 0, []string{"EXEC"})
	_, marked := entryAt(got.Base, "mark")
	if marked == touch || (reply.Kind == impl.ReplyNone) != touch || touch && got.File != s.File {
		t.Fatalf("%s, %q: %+v, %+v", key, turns, reply, got)
	}
}

// P42: who sets a key that it watches itself is touched, too; what it gathered touches others alone.
func TestP42ByTheClientItself(t *testing.T) {
	s := checkTurns(t, newServer(3), turn{0, "WATCH k", "+OK"}, turn{0, "SET k 1", "+OK"})
	if !s.Clients[0].Touch {
		t.Errorf("%+v", s)
	}
	checkTurns(t, s, turn{0, "MULTI", "+OK"}, turn{0, "INCR k", "$6 QUEUED"}, turn{0, "EXEC", "$-1"}, turn{0, "GET k", "$1 1"}, turn{0, "MULTI", "+OK"}, turn{0, "INCR k", "$6 QUEUED"}, turn{0, "EXEC", "*1 :2"})
	checkTurns(t, s, turn{0, "UNWATCH", "+OK"}, turn{0, "MULTI", "+OK"}, turn{0, "INCR k", "$6 QUEUED"}, turn{0, "EXEC", "*1 :2"})
	checkTurns(t, s, turn{0, "MULTI", "+OK"}, turn{0, "DISCARD", "+OK"}, turn{0, "MULTI", "+OK"}, turn{0, "INCR k", "$6 QUEUED"}, turn{0, "EXEC", "*1 :2"})
	checkTurns(t, s, turn{0, "WATCH l", "+OK"}, turn{0, "MULTI", "+OK"}, turn{0, "EXEC", "$-1"})
	s = checkTurns(t, newServer(3), turn{0, "WATCH k", "+OK"}, turn{1, "WATCH l k", "+OK"}, turn{2, "WATCH l", "+OK"}, turn{0, "MULTI", "+OK"}, turn{0, "INCR k", "$6 QUEUED"}, turn{0, "EXEC", "*1 :1"})
	if !sameClient(s.Clients[0], impl.Client{}) || !s.Clients[1].Touch || s.Clients[2].Touch {
		t.Errorf("%+v", s.Clients)
	}
}

// P43: time passes for the base, and for nothing else.
func TestP43Tick(t *testing.T) {
	c := chance(117)
	touched := 0
	for range 800 {
		s := withWatchers(c, anyServer(c, 40))
		ticks := []int{0, 1, 2, 3, 5, 1000, lastTime, lastTime - s.Base.Now, lastTime - s.Base.Now + 1, -1, math.MaxInt, math.MinInt}[c.IntN(12)]
		got := checkServerTick(t, s, ticks)
		if got.File != s.File || !sameBase(got.Base, impl.BaseTick(s.Base, ticks)) {
			t.Fatalf("%d ticks of %+v: %+v", ticks, s, got)
		}
		checkOthers(t, s, got, -1)
		for i, client := range got.Clients {
			gone := slices.ContainsFunc(client.Watch, func(key string) bool {
				_, was := entryAt(s.Base, key)
				_, is := entryAt(got.Base, key)
				return was && !is
			})
			if client.Touch != (s.Clients[i].Touch || gone) {
				t.Fatalf("%d ticks of %+v: %+v", ticks, s, got)
			}
			if gone && !s.Clients[i].Touch {
				touched++
			}
		}
	}
	if touched < 50 {
		t.Errorf("%d touched", touched)
	}
}

func TestP43TickAtItsLimits(t *testing.T) {
	s := doTurns(t, newServer(1), "0 SET k v", "0 EXPIRE k 1000000", "0 WATCH k")
	for _, ticks := range []int{-1, 1000001, math.MinInt, math.MaxInt} {
		if got := checkServerTick(t, s, ticks); !sameServer(got, s) {
			t.Errorf("%d: %+v", ticks, got)
		}
	}
	if got := checkServerTick(t, s, 999999); len(got.Base.Entries) != 1 || got.Clients[0].Touch {
		t.Errorf("%+v", got)
	}
	end := checkServerTick(t, s, 1000000)
	if len(end.Base.Entries) != 0 || !end.Clients[0].Touch || end.Base.Now != 1000000 {
		t.Errorf("%+v", end)
	}
	if got := checkServerTick(t, end, 1); !sameServer(got, end) {
		t.Errorf("%+v", got)
	}
	end = doTurns(t, end, "0 SET k v", "0 EXPIRE k 1000000")
	if e, _ := entryAt(end.Base, "k"); e.Until != 2000000 {
		t.Errorf("%+v", e)
	}
}

func freeClients(s impl.Server) bool {
	return !slices.ContainsFunc(s.Clients, func(c impl.Client) bool { return !sameClient(c, impl.Client{}) })
}

// P44: a fall leaves all that was done, and of what was being done all or nothing.
func TestP44Fall(t *testing.T) {
	c := chance(118)
	kept, lost := 0, 0
	for range 500 {
		s := anyServer(c, 30)
		client, args := c.IntN(len(s.Clients)), anyServerOrder(c, allOrders())
		done, _, _ := impl.ServerDo(s, client, args)
		behind := len(done.File) - len(s.File)
		for _, bytes := range []int{math.MinInt, -1, 0, 1, behind / 2, behind - 1, behind, behind + 1, math.MaxInt} {
			got := checkServerFall(t, s, client, args, bytes)
			if len(got.Clients) != len(s.Clients) || !freeClients(got) || got.Base.Now != s.Base.Now {
				t.Fatalf("%q, %d bytes: %+v", args, bytes, got)
			}
			if bytes >= behind {
				kept++
				if got.File != done.File || !sameBase(got.Base, done.Base) {
					t.Fatalf("%q, %d of %d bytes: %+v", args, bytes, behind, got)
				}
			} else {
				lost++
				if got.File != s.File || !sameBase(got.Base, s.Base) {
					t.Fatalf("%q, %d of %d bytes: %+v", args, bytes, behind, got)
				}
			}
		}
	}
	if kept < 500 || lost < 500 {
		t.Errorf("%d kept, %d lost", kept, lost)
	}
}

// P44: at each byte of what is put behind the file.
func TestP44FallAtEachByte(t *testing.T) {
	s := checkServerTick(t, doTurns(t, newServer(3), "0 SET k v", "1 RPUSH l a b", "1 EXPIRE l 9", "2 SUBSCRIBE w", "2 WATCH k"), 4)
	gathers := doTurns(t, s, "1 MULTI", "1 SET a 1", "1 GET a", "1 EXPIRE k 3", "1 RPUSH l c")
	for _, c := range []struct {
		server impl.Server
		client int
		order  string
	}{{s, 0, "SET k w"}, {s, 0, "EXPIRE k 5"}, {s, 1, "DEL k l"}, {s, 1, "RPUSH l c d e f g h"}, {s, 0, "FLUSH"}, {gathers, 1, "EXEC"}, {s, 0, "GET k"}, {s, 0, "MULTI"}, {s, 0, "LPUSH k x"}, {s, 2, "PUBLISH w t"}, {gathers, 1, "DISCARD"}, {gathers, 1, "SET k w"}} {
		done, _, _ := impl.ServerDo(c.server, c.client, line(c.order))
		behind := len(done.File) - len(c.server.File)
		for bytes := -2; bytes <= behind+2; bytes++ {
			got := checkServerFall(t, c.server, c.client, line(c.order), bytes)
			want := c.server
			if bytes >= behind {
				want = done
			}
			if !sameServer(got, impl.Server{Base: want.Base, File: want.File, Clients: make([]impl.Client, 3)}) {
				t.Fatalf("%s, %d of %d bytes: %+v", c.order, bytes, behind, got)
			}
		}
	}
}

// P44: with a file without room nothing comes behind it.
func TestP44FallWithoutRoom(t *testing.T) {
	for left := range 60 {
		s := fileWithLeft(t, left)
		for _, bytes := range []int{0, 10, left, left + 1, 1000, math.MaxInt} {
			checkServerFall(t, s, 0, line("SET k v"), bytes)
		}
	}
}

// P45: a file that is made shorter says the same.
func TestP45Less(t *testing.T) {
	c := chance(119)
	shorter, as := 0, 0
	for range 800 {
		s := anyServer(c, 40)
		got, ok := checkServerLess(t, s)
		if !sameBase(got.Base, s.Base) || !slices.EqualFunc(got.Clients, s.Clients, sameClient) {
			t.Fatalf("%+v: %+v", s, got)
		}
		if !ok {
			as++
			if got.File != s.File || len(impl.FileOf(s.Base)) < len(s.File) {
				t.Fatalf("%+v: %+v", s, got)
			}
			continue
		}
		shorter++
		if len(got.File) >= len(s.File) || got.File != impl.FileOf(s.Base) {
			t.Fatalf("%+v: %+v", s, got)
		}
		if fallen := impl.ServerFall(got, 0, []string{"FLUSH"}, 3); !sameBase(fallen.Base, s.Base) || fallen.File != got.File {
			t.Fatalf("%+v: behind a fall %+v", got, fallen)
		}
		if _, again := checkServerLess(t, got); again {
			t.Fatalf("%+v: shorter again", got)
		}
		checkServerDo(t, got, 0, anyServerOrder(c, allOrders()))
	}
	if shorter < 200 || as < 50 {
		t.Errorf("%d are shorter, %d are as they were", shorter, as)
	}
}

func TestP45LessAtItsLimits(t *testing.T) {
	one := newServer(1)
	if got, ok := checkServerLess(t, one); ok || got.File != "" {
		t.Errorf("nothing is made shorter: %+v", got)
	}
	one = doTurns(t, one, "0 SET k v")
	if got, ok := checkServerLess(t, one); ok || !sameServer(got, one) {
		t.Errorf("as long as it was: %+v", got)
	}
	later := checkServerTick(t, one, 10)
	if got, ok := checkServerLess(t, later); ok || !sameServer(got, later) {
		t.Errorf("one byte longer: %+v", got)
	}
	twice := doTurns(t, one, "0 MULTI", "0 DEL none", "0 EXEC")
	if got, ok := checkServerLess(t, twice); !ok || got.File != one.File || !sameBase(got.Base, twice.Base) {
		t.Errorf("%+v", got)
	}
	gone := doTurns(t, newServer(2), "0 SET k v", "0 EXPIRE k 7", "1 WATCH k", "1 SUBSCRIBE w", "1 MULTI", "1 GET k")
	gone = checkServerTick(t, gone, 7)
	if got, ok := checkServerLess(t, gone); !ok || got.File != at(7, "DBSIZE").text() || !got.Clients[1].Touch || len(got.Clients[1].Queue) != 1 {
		t.Errorf("%+v", got)
	}
	for left := range 3 {
		if got, ok := checkServerLess(t, fileWithLeft(t, left)); !ok || len(got.File) > 100 {
			t.Errorf("%+v", got)
		}
	}
}

// P46: who listens hears just what is told there, and who does not hears nothing.
func TestP46Listens(t *testing.T) {
	c := chance(120)
	heard := 0
	for range 600 {
		s := freeServer(anyServer(c, 30))
		client, teller := c.IntN(len(s.Clients)), c.IntN(len(s.Clients))
		where, text := anyText(c), anyText(c)
		hears, reply, messages := checkServerDo(t, s, client, []string{"SUBSCRIBE", where})
		if len(messages) != 0 || reply.Kind == impl.ReplyErr && !isError(reply, "long") {
			t.Fatalf("%+v, %+v", reply, messages)
		}
		if reply.Kind == impl.ReplyErr {
			continue
		}
		told, reply, messages := checkServerDo(t, hears, teller, []string{"PUBLISH", where, text})
		if !sameServer(told, hears) || !sameReply(reply, numberReply(len(messages))) {
			t.Fatalf("%+v, %+v", told, reply)
		}
		if own := slices.DeleteFunc(slices.Clone(messages), func(m impl.Message) bool { return m.Client != client }); !slices.Equal(own, []impl.Message{{Client: client, Where: where, Text: text}}) {
			t.Fatalf("%+v", messages)
		}
		heard++
		gone, _, _ := checkServerDo(t, told, client, []string{"UNSUBSCRIBE", where})
		_, _, messages = checkServerDo(t, gone, teller, []string{"PUBLISH", where, text})
		if slices.ContainsFunc(messages, func(m impl.Message) bool { return m.Client == client }) {
			t.Fatalf("%+v", messages)
		}
	}
	if heard < 300 {
		t.Errorf("%d heard", heard)
	}
}

func TestP46ListensAtItsLimits(t *testing.T) {
	s := checkTurns(t, newServer(3), turn{0, "SUBSCRIBE b", ":1"}, turn{0, "SUBSCRIBE a", ":2"}, turn{0, "SUBSCRIBE b", ":2"}, turn{0, "SUBSCRIBE ", ":3"}, turn{0, "SUBSCRIBE " + longest, ":4"}, turn{0, "SUBSCRIBE c", "-long"}, turn{0, "SUBSCRIBE a", ":4"}, turn{0, "UNSUBSCRIBE c", ":4"})
	if !slices.Equal(s.Clients[0].Hears, []string{"", "a", "b", longest}) || len(s.Clients[1].Hears) != 0 {
		t.Fatalf("%+v", s.Clients)
	}
	s = checkTurns(t, s, turn{0, "UNSUBSCRIBE b", ":3"}, turn{0, "SUBSCRIBE c", ":4"}, turn{2, "SUBSCRIBE a", ":1"}, turn{1, "SUBSCRIBE *", ":1"}, turn{2, "SUBSCRIBE aa", ":2"})
	for _, c := range []struct {
		where string
		who   []int
	}{{"a", []int{0, 2}}, {"aa", []int{2}}, {"b", nil}, {"c", []int{0}}, {"", []int{0}}, {longest, []int{0}}, {"*", []int{1}}, {"?", nil}, {"A", nil}} {
		for client := range 3 {
			_, reply, messages := checkServerDo(t, s, client, []string{"PUBLISH", c.where, "to all"})
			var want []impl.Message
			for _, who := range c.who {
				want = append(want, impl.Message{Client: who, Where: c.where, Text: "to all"})
			}
			if !slices.Equal(messages, want) || !sameReply(reply, numberReply(len(want))) {
				t.Errorf("%s by %d: %+v, %+v", c.where, client, reply, messages)
			}
		}
	}
	s = doTurns(t, s, "0 MULTI", "0 DBSIZE", "0 EXEC", "0 MULTI", "0 DISCARD", "0 UNWATCH")
	if len(s.Clients[0].Hears) != 4 {
		t.Errorf("%+v", s.Clients[0])
	}
}

// P47: what the file says is what the server has, behind all that may happen.
func TestP47BehindAllThatMayHappen(t *testing.T) {
	c := chance(121)
	for range 250 {
		clients := 1 + c.IntN(3)
		events := anyEvents(c, clients, 60)
		got := impl.ServerPlay(clients, events)
		b, size := impl.FileBase(got.File)
		if size != len(got.File) || !sameBase(impl.BaseTick(b, got.Base.Now-b.Now), got.Base) || !impl.ServerOk(got) || !modelServerOk(got) {
			t.Fatalf("%+v: %+v", events, got)
		}
	}
}

// P47: also where the file comes to be full, again and again.
func TestP47FullFiles(t *testing.T) {
	c := chance(122)
	full := 0
	for range 4 {
		s := fileWithLeft(t, c.IntN(400))
		orders := slices.DeleteFunc(allOrders(), func(o told) bool { return !o.changes })
		for range 60 {
			e := anyEvent(c, 2, orders)
			want, can := modelEvent(s, e)
			switch {
			case e.Kind == 1 && can:
				_, reply, _ := checkServerDo(t, s, e.Client, e.Args)
				if isError(reply, "file") {
					full++
				}
			case e.Kind == 2:
				checkServerTick(t, s, e.Num)
			case e.Kind == 3 && can:
				checkServerFall(t, s, e.Client, e.Args, e.Num)
			case e.Kind == 4 && c.IntN(3) > 0:
				continue
			}
			s = want
		}
	}
	if full < 20 {
		t.Errorf("%d times there was no room", full)
	}
}

// P48: what happens one by one is what happens together.
func TestP48PlayIsOneByOne(t *testing.T) {
	c := chance(123)
	for range 120 {
		clients := 1 + c.IntN(3)
		events := anyEvents(c, clients, 60)
		want, s := impl.ServerNew(clients), newServer(clients)
		for _, e := range events {
			want = oneEvent(want, e)
			s, _ = modelEvent(s, e)
		}
		got := impl.ServerPlay(clients, events)
		if !sameServer(got, want) || !sameServer(got, s) {
			t.Fatalf("%+v: %+v, not %+v, %+v", events, got, want, s)
		}
	}
}

// oneEvent is by the program's own functions; what cannot be leaves the server.
func oneEvent(s impl.Server, e impl.Event) impl.Server {
	next := s
	switch e.Kind {
	case 1:
		next, _, _ = impl.ServerDo(s, e.Client, e.Args)
	case 2:
		next = impl.ServerTick(s, e.Num)
	case 3:
		next = impl.ServerFall(s, e.Client, e.Args, e.Num)
	case 4:
		next, _ = impl.ServerLess(s)
	}
	if len(next.Clients) == 0 {
		return s
	}
	return next
}

func TestP48PlayAtItsLimits(t *testing.T) {
	events := slices.Repeat([]impl.Event{{Kind: 1, Args: line("INCR n")}}, 62)
	for _, count := range []int{0, 1, 59, 60} {
		got := impl.ServerPlay(2, events[:count])
		if e, _ := entryAt(got.Base, "n"); count > 0 && e.Text != fmt.Sprint(count) || !impl.ServerOk(got) {
			t.Errorf("%d events: %+v", count, got.Base)
		}
	}
	for _, count := range []int{61, 62} {
		if got := impl.ServerPlay(2, events[:count]); !sameServer(got, newServer(2)) {
			t.Errorf("%d events: %+v", count, got)
		}
	}
	for _, clients := range []int{0, -1, 4, math.MinInt, math.MaxInt} {
		for _, count := range []int{0, 1, 60, 61} {
			if got := impl.ServerPlay(clients, events[:count]); !isNoServer(got) {
				t.Errorf("%d clients, %d events: %+v", clients, count, got)
			}
		}
	}
}

// P48: each kind does its own, and what cannot be changes nothing.
func TestP48KindsOfEvents(t *testing.T) {
	first := []impl.Event{{Kind: 1, Args: line("SET k v")}, {Kind: 1, Client: 2, Args: line("WATCH k")}, {Kind: 1, Client: 1, Args: line("EXPIRE k 9")}, {Kind: 2, Num: 4}, {Kind: 1, Client: 2, Args: line("SUBSCRIBE w")}}
	start := impl.ServerPlay(3, first)
	if e, _ := entryAt(start.Base, "k"); e.Until != 9 || start.Base.Now != 4 || !start.Clients[2].Touch || len(start.Clients[2].Hears) != 1 {
		t.Fatalf("%+v", start)
	}
	for _, e := range []impl.Event{{Kind: 0, Args: line("SET k w")}, {Kind: 5, Args: line("SET k w"), Num: 1}, {Kind: -1, Args: line("FLUSH"), Num: 1}, {Kind: math.MaxInt, Num: 1}, {Kind: math.MinInt, Num: 1}, {Kind: 1, Client: 3, Args: line("FLUSH")}, {Kind: 1, Client: -1, Args: line("FLUSH")}, {Kind: 1}, {Kind: 1, Args: []string{"SET", "k", tooLong}}, {Kind: 2, Num: -1}, {Kind: 2, Num: lastTime}, {Kind: 2, Num: math.MaxInt}, {Kind: 2, Num: math.MinInt}, {Kind: 3, Client: 3, Args: line("FLUSH"), Num: 100}, {Kind: 3, Client: -1, Args: line("FLUSH")}, {Kind: 3, Num: 100}, {Kind: 3, Args: []string{tooLong}}, {Kind: 4}} {
		if got := impl.ServerPlay(3, append(slices.Clone(first), e)); !sameServer(got, start) && e.Kind != 4 {
			t.Errorf("%+v: %+v", e, got)
		}
	}
	fallen := impl.ServerPlay(3, append(slices.Clone(first), impl.Event{Kind: 3, Client: 2, Args: line("FLUSH"), Num: 12}))
	if !sameBase(fallen.Base, start.Base) || fallen.File != start.File || !freeClients(fallen) {
		t.Errorf("%+v", fallen)
	}
	whole := impl.ServerPlay(3, append(slices.Clone(first), impl.Event{Kind: 3, Client: 2, Args: line("FLUSH"), Num: 1000}))
	if len(whole.Base.Entries) != 0 || whole.Base.Now != 4 || whole.File != start.File+at(4, "FLUSH").text() {
		t.Errorf("%+v", whole)
	}
	less := impl.ServerPlay(3, append(slices.Clone(first), impl.Event{Kind: 1, Args: line("DEL k")}, impl.Event{Kind: 4}))
	if less.File != at(4, "DBSIZE").text() || !less.Clients[2].Touch {
		t.Errorf("%+v", less)
	}
}

// No call leaves a goroutine behind, and calls at the same time answer as one by one.
func TestServersAtTheSameTime(t *testing.T) {
	s := withClient(busyClient())
	want, _, _ := impl.ServerDo(s, 0, line("INCR n"))
	before := runtime.NumGoroutine()
	var all sync.WaitGroup
	for range 50 {
		all.Go(func() {
			for range 20 {
				if got, reply, _ := impl.ServerDo(s, 0, line("INCR n")); !sameServer(got, want) || reply.Num != 1 {
					t.Errorf("%+v, %+v", got, reply)
				}
			}
		})
	}
	all.Wait()
	for range 100 {
		if runtime.NumGoroutine() <= before {
			return
		}
		time.Sleep(10 * time.Millisecond)
	}
	t.Errorf("%d goroutines, not %d", runtime.NumGoroutine(), before)
}
