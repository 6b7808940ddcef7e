package tests

import (
	"testing"

	"loop.example/quincunx/impl"
)

func roomyFollower(f impl.Follower) impl.Follower {
	f.Base = roomy(f.Base)
	return f
}

func someFollowers(t *testing.T) []impl.Follower {
	out := append(rightFollowers(t)[:16], wrongFollowers(t)[:20]...)
	c := chance(245)
	for range 20 {
		out = append(out, hasAll(anyLeader(c, 40)))
	}
	return append(out, hasAll(leads(fullServer(), 1)))
}

// fullServer has an entry of each kind, and more.
func fullServer() impl.Server {
	s := newServer(2)
	s.Base = manyEntries(12, 7)
	s.File = fileByHand(s.Base)
	return s
}

func TestMemoryOfLeaders(t *testing.T) {
	orders := []string{"GET k", "SET k w", "RPUSH l c", "LRANGE l 0 -1", "KEYS *", "FLUSH", "NONE", "MULTI", "EXEC", "WATCH z y x", "SUBSCRIBE w", "PUBLISH b t"}
	for i, s := range someServers(t) {
		s = roomyServer(s)
		l := leads(s, []int{1, most, 0}[i%3])
		given := []any{l}
		checkFresh(t, "LeaderOk", given, func() []any { return []any{impl.LeaderOk(l)} })
		checkFresh(t, "LeaderLess", given, func() []any { got, ok := impl.LeaderLess(l); return []any{got, ok} })
		for _, ticks := range []int{-1, 0, 1, lastTime} {
			checkFresh(t, "LeaderTick", given, func() []any { return []any{impl.LeaderTick(l, ticks)} })
		}
		for _, client := range []int{0, 1, 3} {
			for _, order := range orders {
				args := withRoom(line(order), "spare")
				checkFresh(t, "LeaderDo", []any{l, args}, func() []any { got, reply := impl.LeaderDo(l, client, args); return []any{got, reply} })
			}
			for _, args := range notOrders() {
				args = withRoom(args, "spare")
				checkFresh(t, "LeaderDo", []any{l, args}, func() []any { got, reply := impl.LeaderDo(l, client, args); return []any{got, reply} })
			}
		}
	}
	for clients := range 5 {
		checkFresh(t, "LeaderNew", nil, func() []any { return []any{impl.LeaderNew(clients)} })
	}
}

// What was gathered, watched and listened to shares no memory with the words that told it, nor with the leader ahead.
func TestMemoryOfClientsOfLeaders(t *testing.T) {
	l := impl.LeaderNew(2)
	for _, order := range []string{"RPUSH l x", "WATCH b a", "SUBSCRIBE w", "MULTI", "RPUSH l a b", "GET k"} {
		args := withRoom(line(order), "spare")
		next, reply := impl.LeaderDo(l, 0, args)
		checkAlone(t, order, l, args, next, reply, impl.LeaderTick(next, 1))
		l = next
	}
}

func TestMemoryOfFollowers(t *testing.T) {
	l := leads(roomyServer(fullServer()), 4)
	for _, f := range someFollowers(t) {
		f = roomyFollower(f)
		given := []any{f}
		checkFresh(t, "FollowerOk", given, func() []any { return []any{impl.FollowerOk(f)} })
		checkFresh(t, "PackFor", []any{l, f}, func() []any { return []any{impl.PackFor(l, f)} })
		checkFresh(t, "FollowerLag", []any{l, f}, func() []any { return []any{impl.FollowerLag(l, f)} })
		goesOn := impl.Pack{History: f.History, At: len(f.Text), Now: f.Base.Now}
		for _, p := range []impl.Pack{{}, goesOn, impl.PackFor(l, f), {Full: true, History: 1, Text: l.Server.File, Now: 9}, {Full: true, History: 1, Text: "x"}} {
			checkFresh(t, "FollowerTake", given, func() []any { got, ok := impl.FollowerTake(f, p); return []any{got, ok} })
		}
		for clients := range 5 {
			checkFresh(t, "FollowerLead", given, func() []any { return []any{impl.FollowerLead(f, clients)} })
		}
		for _, order := range []string{"GET tA", "LRANGE tB 0 -1", "SMEMBERS tC", "ZRANGE tD 0 -1", "HGETALL tE", "SUNION tC tC", "KEYS *", "SET k v", "NONE", ""} {
			args := withRoom(line(order), "spare")
			checkFresh(t, "FollowerAsk", []any{f, args}, func() []any { reply, ok := impl.FollowerAsk(f, args); return []any{reply, ok} })
		}
		for _, args := range notOrders() {
			args = withRoom(args, "spare")
			checkFresh(t, "FollowerAsk", []any{f, args}, func() []any { reply, ok := impl.FollowerAsk(f, args); return []any{reply, ok} })
		}
	}
}

// Entries and clients that share one list leave lists that do not.
func TestMemoryOfSharedLists(t *testing.T) {
	list := withRoom([]string{"a", "b"}, "spare")
	s := newServer(2)
	s.File = textOf(at(0, "RPUSH l a b", "SADD s a b"))
	s.Base.Entries = []impl.Entry{{Key: "l", Kind: impl.IsList, List: list}, {Key: "s", Kind: impl.IsSet, List: list}}
	s.Clients[0] = impl.Client{Watch: list, Hears: list}
	s.Clients[1] = s.Clients[0]
	l, f := leads(s, 1), hasAll(leads(s, 1))
	if !impl.LeaderOk(l) || !impl.FollowerOk(f) {
		t.Fatalf("%+v, %+v", l, f)
	}
	for _, order := range []string{"GET l", "RPUSH l c", "SADD s c", "LRANGE l 0 -1", "SMEMBERS s"} {
		got, reply := impl.LeaderDo(l, 0, line(order))
		asked, _ := impl.FollowerAsk(f, line(order))
		checkAlone(t, order, got, reply, asked, list)
	}
	as, _ := impl.LeaderDo(l, 9, line("GET l"))
	less, _ := impl.LeaderLess(l)
	checkAlone(t, "leaders", as, less, impl.LeaderTick(l, 0), impl.LeaderTick(l, -1), impl.FollowerLead(f, 2), list)
	taken, _ := impl.FollowerTake(f, impl.PackFor(l, f))
	all, _ := impl.FollowerTake(f, impl.PackFor(l, impl.Follower{}))
	refused, _ := impl.FollowerTake(f, impl.Pack{})
	checkAlone(t, "followers", taken, all, refused, list)
}
