package tests

import (
	"slices"
	"testing"

	"loop.example/quincunx/impl"
)

// roomyServer is a server all of whose lists have spare room.
func roomyServer(s impl.Server) impl.Server {
	out := impl.Server{Base: roomy(s.Base), File: s.File}
	for _, c := range s.Clients {
		c.Queue, c.Watch, c.Hears = roomyOrders(c.Queue), withRoom(c.Watch, "spare"), withRoom(c.Hears, "spare")
		out.Clients = append(out.Clients, c)
	}
	out.Clients = withRoom(out.Clients, impl.Client{Watch: []string{"spare"}})
	return out
}

func someServers(t *testing.T) []impl.Server {
	c := chance(125)
	out := append(rightServers(t), wrongServers(t)[:12]...)
	for range 15 {
		out = append(out, withWatchers(c, anyServer(c, 40)))
	}
	return out
}

func checkMemoryOfServer(t *testing.T, s impl.Server, client int, args []string) {
	t.Helper()
	given := []any{s, args}
	checkFresh(t, "ServerDo", given, func() []any {
		got, reply, messages := impl.ServerDo(s, client, args)
		return []any{got, reply, messages}
	})
	for _, bytes := range []int{-1, 0, 30, 1000} {
		checkFresh(t, "ServerFall", given, func() []any { return []any{impl.ServerFall(s, client, args, bytes)} })
	}
}

func TestMemoryOfServers(t *testing.T) {
	orders := []string{"GET k", "SET k w", "RPUSH l c", "LRANGE l 0 -1", "SMEMBERS s0", "KEYS *", "DEL k l", "FLUSH", "NONE", "MULTI", "EXEC", "DISCARD", "WATCH", "WATCH k", "WATCH z y x", "UNWATCH", "SUBSCRIBE w", "SUBSCRIBE b", "UNSUBSCRIBE b", "UNSUBSCRIBE w", "PUBLISH b t", "PUBLISH a t", "PUBLISH w t"}
	for _, s := range someServers(t) {
		s = roomyServer(s)
		checkFresh(t, "ServerOk", []any{s}, func() []any { return []any{impl.ServerOk(s)} })
		checkFresh(t, "ServerLess", []any{s}, func() []any { got, ok := impl.ServerLess(s); return []any{got, ok} })
		for _, ticks := range []int{-1, 0, 1, 4, lastTime} {
			checkFresh(t, "ServerTick", []any{s}, func() []any { return []any{impl.ServerTick(s, ticks)} })
		}
		for _, client := range []int{0, 1, 2, 3} {
			for _, order := range orders {
				checkMemoryOfServer(t, s, client, withRoom(line(order), "spare"))
			}
			for _, args := range notOrders() {
				checkMemoryOfServer(t, s, client, withRoom(args, "spare"))
			}
		}
	}
}

// What was gathered, watched and listened to shares no memory with the words that told it, nor with the server ahead.
func TestMemoryOfClients(t *testing.T) {
	s := newServer(2)
	for _, order := range []string{"WATCH b a", "SUBSCRIBE w", "SUBSCRIBE v", "WATCH c", "MULTI", "RPUSH l a b", "LRANGE l 0 -1", "GET", "SADD s a"} {
		args := withRoom(line(order), "spare")
		next, _, _ := impl.ServerDo(s, 0, args)
		was := copyOfServer(next)
		for i, queued := range was.Clients[0].Queue {
			was.Clients[0].Queue[i] = slices.Clone(queued)
		}
		scribble(args, "over")
		for i := range s.Clients {
			scribble(s.Clients[i].Watch, "over")
			scribble(s.Clients[i].Hears, "over")
			for _, queued := range s.Clients[i].Queue {
				scribble(queued, "over")
			}
			scribble(s.Clients[i].Queue, []string{"over"})
		}
		if !sameServer(next, was) {
			t.Fatalf("%s: %+v, not %+v", order, next, was)
		}
		s = next
	}
}

// Clients that share one list leave lists that do not.
func TestMemoryOfSharedClients(t *testing.T) {
	list, orders := withRoom([]string{"a", "b"}, "spare"), roomyOrders([][]string{line("RPUSH l x"), line("LRANGE l 0 -1")})
	orders[1] = orders[0]
	both := impl.Client{Multi: true, Queue: orders, Watch: list, Hears: list}
	for _, c := range []impl.Client{both, {Watch: list, Hears: list[:1]}} {
		s := withClient(c)
		s.Clients[0] = c
		s.Base.Entries[1].List = list
		for _, order := range []string{"GET k", "SET k w", "LRANGE l 0 -1", "WATCH a", "WATCH c", "SUBSCRIBE a", "SUBSCRIBE w", "UNSUBSCRIBE a", "PUBLISH a t", "EXEC", "DISCARD", "MULTI", "UNWATCH", "NONE"} {
			got, reply, messages := impl.ServerDo(s, 0, line(order))
			if !impl.ServerOk(got) {
				t.Fatalf("%s: %+v", order, got)
			}
			checkAlone(t, order, got, reply, messages, impl.ServerFall(s, 1, line(order), 9))
		}
		less, _ := impl.ServerLess(s)
		checkAlone(t, "each", less, impl.ServerTick(s, 0), impl.ServerTick(s, 9), list)
	}
}

func TestMemoryOfPlays(t *testing.T) {
	c := chance(126)
	for range 60 {
		clients := c.IntN(5)
		events := anyEvents(c, max(1, clients), 62)
		for i := range events {
			events[i].Args = withRoom(events[i].Args, "spare")
		}
		events = withRoom(events, impl.Event{Kind: 1, Args: []string{"FLUSH"}})
		checkFresh(t, "ServerPlay", []any{events}, func() []any { return []any{impl.ServerPlay(clients, events)} })
		lines := make([]string, c.IntN(45))
		for i := range lines {
			lines[i] = anySessionLine(c, allOrders())
		}
		lines = withRoom(lines, "0 FLUSH")
		checkFresh(t, "Session", []any{lines}, func() []any { return []any{impl.Session(lines)} })
	}
	args := line("WATCH a b")
	watch := impl.Event{Kind: 1, Args: args}
	other := impl.Event{Kind: 1, Client: 1, Args: args}
	gather := []impl.Event{watch, other, {Kind: 1, Args: line("MULTI")}}
	order := impl.Event{Kind: 1, Args: line("RPUSH l a")}
	got := impl.ServerPlay(2, append(gather, order, order, order))
	if len(got.Clients[0].Queue) != 3 || len(got.Clients[1].Watch) != 2 {
		t.Errorf("%+v", got)
	}
	checkAlone(t, "ServerPlay", got, args, order.Args)
	for clients := range 5 {
		checkFresh(t, "ServerNew", nil, func() []any { return []any{impl.ServerNew(clients)} })
	}
}
