package tests

import (
	"math/rand/v2"
	"slices"
	"strings"
	"testing"

	"loop.example/quincunx/impl"
)

// doLeader is a leader behind orders of its first client, that must not reply an error.
func doLeader(t *testing.T, l impl.Leader, orders ...string) impl.Leader {
	t.Helper()
	for _, order := range orders {
		next, reply := checkLeaderDo(t, l, 0, line(order))
		if reply.Kind == impl.ReplyErr {
			t.Fatalf("%s: %s", order, reply.Text)
		}
		l = next
	}
	return l
}

// catchUp is a follower that took what it is to be sent, which it must.
func catchUp(t *testing.T, l impl.Leader, f impl.Follower) impl.Follower {
	t.Helper()
	got, ok := checkTake(t, f, checkPack(t, l, f))
	if !ok || !sameFollower(got, hasAll(l)) {
		t.Fatalf("%+v does not follow %+v: %+v, %t", f, l, got, ok)
	}
	return got
}

// P68: a leader begins with nothing, in its first history; who follows lacks nothing.
func TestP68LeaderNew(t *testing.T) {
	for clients := 1; clients <= 3; clients++ {
		l := impl.LeaderNew(clients)
		if l.History != 1 || l.Server.File != "" || !isNothing(l.Server.Base) || len(l.Server.Clients) != clients || !freeClients(l.Server) {
			t.Errorf("%d: %+v", clients, l)
		}
		for _, f := range []impl.Follower{{}, {History: 1}, {History: 2}, hasAll(aLeader())} {
			if p := checkPack(t, l, f); p.Text != "" || p.History != 1 || p.Now != 0 || p.Full != (f.History != 1) {
				t.Errorf("%+v: %+v", f, p)
			}
			if lag := impl.FollowerLag(l, f); lag != 0 {
				t.Errorf("%+v: %d behind", f, lag)
			}
			catchUp(t, l, f)
		}
	}
}

// P69: a leader does what its server does, in the same history.
func TestP69LeaderDoIsServerDo(t *testing.T) {
	c := chance(234)
	longer := 0
	for range 800 {
		l := leads(withWatchers(c, anyServer(c, 25)), anyHistory(c))
		client, args := c.IntN(len(l.Server.Clients)), anyServerOrder(c, allOrders())
		want, said, _ := impl.ServerDo(l.Server, client, args)
		got, reply := checkLeaderDo(t, l, client, args)
		if !sameServer(got.Server, want) || !sameReply(reply, said) || got.History != l.History || !strings.HasPrefix(got.Server.File, l.Server.File) {
			t.Fatalf("%d %q to %+v: %+v, %+v", client, args, l, got, reply)
		}
		if len(got.Server.File) > len(l.Server.File) {
			longer++
		}
	}
	if longer < 100 {
		t.Errorf("%d files are longer", longer)
	}
}

// P69: of servers at their limits too, also of a file without room.
func TestP69LeaderDoOfRightServers(t *testing.T) {
	for _, s := range rightServers(t) {
		for _, history := range []int{1, most} {
			for _, order := range []string{"SET k w", "GET k", "FLUSH", "MULTI", "EXEC", "DISCARD", "WATCH a", "UNWATCH", "SUBSCRIBE z", "PUBLISH a t", "NONE", "RPUSH k x"} {
				got, reply := checkLeaderDo(t, leads(s, history), 0, line(order))
				want, said, _ := impl.ServerDo(s, 0, line(order))
				if !sameLeader(got, leads(want, history)) || !sameReply(reply, said) {
					t.Fatalf("%s to %+v: %+v, %+v", order, s, got, reply)
				}
			}
		}
	}
}

// P70: time passes for a leader as for its server.
func TestP70LeaderTickIsServerTick(t *testing.T) {
	c := chance(235)
	for range 500 {
		l := leads(withWatchers(c, anyServer(c, 25)), anyHistory(c))
		ticks := append(wrongTimes, 0, 1, 2, 3, 5, lastTime, lastTime-l.Server.Base.Now, lastTime-l.Server.Base.Now+1)[c.IntN(13)]
		got := checkLeaderTick(t, l, ticks)
		if got.History != l.History || !sameServer(got.Server, impl.ServerTick(l.Server, ticks)) {
			t.Fatalf("%d ticks of %+v: %+v", ticks, l, got)
		}
		if may := ticks >= 0 && ticks <= lastTime-l.Server.Base.Now; !may && !sameLeader(got, l) {
			t.Fatalf("%d ticks of %+v: %+v", ticks, l, got)
		}
	}
}

// P71: a leader whose file is made shorter has the same, in another history.
func TestP71LeaderLess(t *testing.T) {
	c := chance(236)
	shorter, as := 0, 0
	for range 600 {
		l := anyLeader(c, 40)
		f := catchUp(t, l, anyFollower(c, l))
		got, ok := checkLeaderLess(t, l)
		if !ok {
			as++
			if _, may := impl.ServerLess(l.Server); !sameLeader(got, l) || may && l.History != most {
				t.Fatalf("%+v: %+v", l, got)
			}
			continue
		}
		shorter++
		if want, _ := impl.ServerLess(l.Server); !sameLeader(got, leads(want, l.History+1)) {
			t.Fatalf("%+v: %+v", l, got)
		}
		p := checkPack(t, got, f)
		next := catchUp(t, got, f)
		if !p.Full || p.History != l.History+1 || !sameBase(next.Base, f.Base) || next.Text == f.Text || next.History != got.History {
			t.Fatalf("%+v: %+v, %+v", l, p, next)
		}
		if back, took := checkTake(t, next, checkPack(t, l, f)); took {
			t.Fatalf("the history ahead goes on: %+v", back)
		}
	}
	if shorter < 150 || as < 50 {
		t.Errorf("%d are shorter, %d are as they were", shorter, as)
	}
}

// P71: a file that is made shorter, and comes to be as long as it was, is not followed on.
func TestP71LessAndLonger(t *testing.T) {
	l := doLeader(t, impl.LeaderNew(1), "SET k 1", "SET k 2")
	f := catchUp(t, l, impl.Follower{})
	less, ok := checkLeaderLess(t, l)
	less = doLeader(t, less, "SET k 2")
	p := checkPack(t, less, f)
	if !ok || len(less.Server.File) != len(l.Server.File) || !p.Full || p.Text != less.Server.File {
		t.Fatalf("%+v: %+v", less, p)
	}
	g := catchUp(t, less, f)
	again, ok := checkLeaderLess(t, less)
	if q := checkPack(t, again, g); !ok || again.History != 3 || !q.Full {
		t.Errorf("%+v: %+v", again, q)
	}
	if next := catchUp(t, again, g); next.Text != textOf(at(0, "SET k 2")) {
		t.Errorf("%+v", next)
	}
}

// P72: who takes what they are sent has what the leader has, and then there is nothing to take.
func TestP72WhoTakesHasAll(t *testing.T) {
	c := chance(237)
	full, behind := 0, 0
	for range 1200 {
		l := anyLeader(c, 25)
		f := anyFollower(c, l)
		p := checkPack(t, l, f)
		got := catchUp(t, l, f)
		if p.Full {
			full++
		} else {
			behind++
		}
		again := checkPack(t, l, got)
		if again.Full || again.Text != "" || again.At != len(l.Server.File) || again.History != l.History || again.Now != l.Server.Base.Now {
			t.Fatalf("%+v, that has all of %+v, is to take %+v", got, l, again)
		}
		if next := catchUp(t, l, got); !sameFollower(next, got) {
			t.Fatalf("%+v, not %+v", next, got)
		}
	}
	if full < 200 || behind < 200 {
		t.Errorf("%d took all, %d took what was behind", full, behind)
	}
}

// P72: followers that go on now and then, whatever the leader does meanwhile.
func TestP72FollowAllAlong(t *testing.T) {
	c := chance(238)
	less := 0
	for range 60 {
		l := impl.LeaderNew(2)
		followers := make([]impl.Follower, 3)
		orders := someOrders(c)
		for range 40 {
			switch c.IntN(12) {
			case 0:
				l = checkLeaderTick(t, l, c.IntN(4))
			case 1:
				next, ok := checkLeaderLess(t, l)
				l = next
				if ok {
					less++
				}
			case 2, 3, 4:
				who := c.IntN(3)
				followers[who] = catchUp(t, l, followers[who])
			default:
				l, _ = checkLeaderDo(t, l, c.IntN(2), anyServerOrder(c, orders))
			}
		}
		for _, f := range followers {
			catchUp(t, l, f)
		}
	}
	if less < 20 {
		t.Errorf("%d times a file was made shorter", less)
	}
}

// parts is a pack in two, the first one with so many bytes, at a time.
func parts(p impl.Pack, f impl.Follower, size int, now int) (impl.Pack, impl.Pack) {
	first, second := p, p
	first.Text, first.Now = p.Text[:size], now
	second.Full, second.Text = false, p.Text[size:]
	second.At = p.At + size
	return first, second
}

// P73: whoever follows in parts comes to the same as who follows at once.
func TestP73InTwoParts(t *testing.T) {
	c := chance(239)
	count, full := 0, 0
	for range 500 {
		l := anyLeader(c, 30)
		f := anyFollower(c, l)
		p := checkPack(t, l, f)
		want := catchUp(t, l, f)
		for _, end := range recordEnds(l.Server.File) {
			size := end - p.At
			if size < 0 {
				continue
			}
			b, _ := fileByRecords(l.Server.File[:end])
			low := b.Now
			if !p.Full {
				low = max(low, f.Base.Now)
			}
			first, second := parts(p, f, size, low+c.IntN(p.Now-low+1))
			half, ok := checkTake(t, f, first)
			got, also := checkTake(t, half, second)
			if !ok || !also || !sameFollower(got, want) {
				t.Fatalf("%+v, then %+v, by %+v: %+v, then %+v, not %+v", first, second, f, half, got, want)
			}
			count++
			if p.Full {
				full++
			}
		}
	}
	if count < 1500 || full < 300 {
		t.Errorf("%d in two parts, %d of them of all", count, full)
	}
}

// P73: a part that ends within a record is not taken, and leaves all to be taken at once.
func TestP73PartsThatBreakOff(t *testing.T) {
	l := aLeader()
	f := follows(4, l.Server.File[:recordEnds(l.Server.File)[1]], 0)
	p := checkPack(t, l, f)
	want := catchUp(t, l, f)
	for size := range len(p.Text) + 1 {
		first, second := parts(p, f, size, 6)
		half, ok := checkTake(t, f, first)
		if ok != slices.Contains(recordEnds(p.Text), size) {
			t.Fatalf("%d bytes: %t", size, ok)
		}
		if !ok {
			if _, took := checkTake(t, half, second); took {
				t.Fatalf("the second part goes on from %d bytes", size)
			}
			second = p
		}
		if got, also := checkTake(t, half, second); !also || !sameFollower(got, want) {
			t.Fatalf("%d bytes: %+v, not %+v", size, got, want)
		}
	}
}

// checkWhole is that what is taken is a whole file, at the pack's time, and what is not leaves the follower.
func checkWhole(t *testing.T, f impl.Follower, p impl.Pack) bool {
	t.Helper()
	got, ok := checkTake(t, f, p)
	if !ok {
		if !sameFollower(got, f) {
			t.Fatalf("%+v by %+v: %+v", p, f, got)
		}
		return false
	}
	b, size := impl.FileBase(got.Text)
	if size != len(got.Text) || got.Base.Now != p.Now || !sameBase(impl.BaseTick(b, p.Now-b.Now), got.Base) || got.History != p.History || !strings.HasSuffix(got.Text, p.Text) {
		t.Fatalf("%+v by %+v: %+v", p, f, got)
	}
	if !p.Full && got.Text != f.Text+p.Text || p.Full && got.Text != p.Text {
		t.Fatalf("%+v by %+v: %+v", p, f, got)
	}
	return true
}

// P74: what does not go on from what one has is not taken.
func TestP74OnlyWhatGoesOn(t *testing.T) {
	c := chance(240)
	taken, refused := 0, 0
	for range 2500 {
		l := anyLeader(c, 15)
		f := anyFollower(c, l)
		p := spoiledPack(c, checkPack(t, l, f))
		if c.IntN(4) == 0 {
			p = spoiledPack(c, p)
		}
		if checkWhole(t, f, p) {
			taken++
		} else {
			refused++
		}
	}
	if taken < 300 || refused < 500 {
		t.Errorf("%d taken, %d refused", taken, refused)
	}
}

// P74: at each byte of what was sent, and at each time.
func TestP74EachByteAndEachTime(t *testing.T) {
	l := aLeader()
	f := follows(4, l.Server.File[:recordEnds(l.Server.File)[1]], 1)
	for _, who := range []impl.Follower{{}, {History: 4}, f, hasAll(l)} {
		p := checkPack(t, l, who)
		for size := range len(p.Text) + 1 {
			cut := p
			cut.Text = p.Text[:size]
			if got := checkWhole(t, who, cut); got != slices.Contains(recordEnds(p.Text), size) {
				t.Fatalf("%d bytes by %+v: %t", size, who, got)
			}
		}
		for now := -2; now < 12; now++ {
			other := p
			other.Now = now
			may := now >= 0 && (p.Text == "" || now >= 5) && (p.Full || now >= who.Base.Now)
			if got := checkWhole(t, who, other); got != may {
				t.Fatalf("at %d by %+v: %t", now, who, got)
			}
		}
	}
}

// P74: what one of two was sent does not go on from what the other one has.
func TestP74WhatAnotherOneWasSent(t *testing.T) {
	c := chance(241)
	others := 0
	for range 400 {
		l := anyLeader(c, 25)
		a, b := anyFollower(c, l), anyFollower(c, l)
		p := checkPack(t, l, a)
		took := checkWhole(t, b, p)
		goesOn := p.Full || b.History == l.History && len(b.Text) == p.At && b.Base.Now <= p.Now
		if took && !goesOn {
			t.Fatalf("%+v by %+v", p, b)
		}
		if !goesOn {
			others++
		}
	}
	if others < 50 {
		t.Errorf("%d do not go on", others)
	}
}

// P75: a follower answers as the leader would, if it has what the leader has, and nothing is changed by that.
func TestP75AskIsDo(t *testing.T) {
	c := chance(242)
	asked, refused := 0, 0
	for range 1500 {
		l := leads(freeServer(anyServer(c, 25)), anyHistory(c))
		f := catchUp(t, l, anyFollower(c, l))
		args := anyLine(c, allOrders())
		reply, ok := checkAsk(t, f, args)
		if ok == impl.Changes(args) {
			t.Fatalf("%q: %t", args, ok)
		}
		if !ok {
			refused++
			if !isNoReply(reply) {
				t.Fatalf("%q: %+v", args, reply)
			}
			continue
		}
		asked++
		after, want := impl.Do(f.Base, args)
		if !sameReply(reply, want) || !sameBase(after, f.Base) {
			t.Fatalf("%q of %+v: %+v, not %+v", args, f, reply, want)
		}
		next, said := impl.LeaderDo(l, 0, args)
		if !sameReply(reply, said) || !sameLeader(next, l) {
			t.Fatalf("%q of %+v: %+v, by the leader %+v", args, f, reply, said)
		}
	}
	if asked < 300 || refused < 300 {
		t.Errorf("%d asked, %d refused", asked, refused)
	}
}

// P75: who is behind answers what it has.
func TestP75WhoIsBehind(t *testing.T) {
	l := doLeader(t, impl.LeaderNew(1), "SET k 1", "EXPIRE k 5")
	f := catchUp(t, l, impl.Follower{})
	l = checkLeaderTick(t, doLeader(t, l, "INCR k", "SET n 1"), 5)
	for _, c := range []struct {
		f     impl.Follower
		order string
		reply string
	}{
		{f, "GET k", "$1 1"}, {f, "TTL k", ":5"}, {f, "DBSIZE", ":1"}, {f, "GET n", "$-1"}, {impl.Follower{}, "DBSIZE", ":0"}, {impl.Follower{}, "GET k", "$-1"}, {impl.Follower{History: 1}, "KEYS *", "*0"},
		{catchUp(t, l, f), "GET k", "$-1"}, {catchUp(t, l, f), "GET n", "$1 1"},
	} {
		if reply, ok := checkAsk(t, c.f, line(c.order)); !ok || replyLine(reply) != c.reply {
			t.Errorf("%s of %+v: %+v, %t", c.order, c.f, reply, ok)
		}
	}
}

// P76: who has the beginning of a file is as far behind as is left of it; of another history that is all.
func TestP76Lag(t *testing.T) {
	c := chance(243)
	begins, others := 0, 0
	for range 1000 {
		l := anyLeader(c, 30)
		f := anyFollower(c, l)
		p := checkPack(t, l, f)
		lag := impl.FollowerLag(l, f)
		if lag != len(p.Text) {
			t.Fatalf("%+v of %+v: %d behind, %+v", f, l, lag, p)
		}
		if f.History != l.History {
			others++
			if lag != len(l.Server.File) || !p.Full {
				t.Fatalf("%+v of %+v: %d behind, %+v", f, l, lag, p)
			}
			continue
		}
		if strings.HasPrefix(l.Server.File, f.Text) && f.Base.Now <= l.Server.Base.Now {
			begins++
			if lag != len(l.Server.File)-len(f.Text) || p.Full {
				t.Fatalf("%+v of %+v: %d behind, %+v", f, l, lag, p)
			}
		}
		f = catchUp(t, l, f)
		next, _ := checkLeaderDo(t, l, 0, line("SET mark x"))
		if lag := impl.FollowerLag(next, f); lag != len(next.Server.File)-len(l.Server.File) {
			t.Fatalf("%+v of %+v: %d behind", f, next, lag)
		}
	}
	if begins < 300 || others < 150 {
		t.Errorf("%d have a beginning, %d are of another history", begins, others)
	}
}

// P77: a follower that leads has what it had, in a history that nobody followed.
func TestP77Lead(t *testing.T) {
	c := chance(244)
	led, none := 0, 0
	for range 800 {
		l := anyLeader(c, 25)
		f := anyFollower(c, l)
		clients := 1 + c.IntN(3)
		got := checkLead(t, f, clients)
		if f.History == 0 || f.History == most {
			none++
			if !isNoLeader(got) {
				t.Fatalf("%+v leads: %+v", f, got)
			}
			continue
		}
		led++
		if got.History != f.History+1 || !sameBase(got.Server.Base, f.Base) || got.Server.File != f.Text || len(got.Server.Clients) != clients || !freeClients(got.Server) || !impl.LeaderOk(got) {
			t.Fatalf("%+v leads: %+v", f, got)
		}
		p := checkPack(t, got, f)
		next := catchUp(t, got, f)
		if !p.Full || p.History != f.History+1 || p.Text != f.Text || next.History != f.History+1 || next.Text != f.Text || !sameBase(next.Base, f.Base) {
			t.Fatalf("%+v is to take %+v: %+v", f, p, next)
		}
		checkLeadsOn(t, c, got, l)
	}
	if led < 300 || none < 100 {
		t.Errorf("%d led, %d did not", led, none)
	}
}

// checkLeadsOn is that a new leader is followed by who followed another one.
func checkLeadsOn(t *testing.T, c *rand.Rand, l impl.Leader, was impl.Leader) {
	t.Helper()
	next, reply := checkLeaderDo(t, l, 0, anyServerOrder(c, allOrders()))
	if next.History != l.History || !strings.HasPrefix(next.Server.File, l.Server.File) {
		t.Fatalf("%+v: %+v, %+v", l, next, reply)
	}
	catchUp(t, next, hasAll(was))
	catchUp(t, next, hasAll(l))
	catchUp(t, next, impl.Follower{})
}

// P77: two followers of one leader that both lead are in one history, and each is followed by what its file says.
func TestP77TwoLead(t *testing.T) {
	l := doLeader(t, impl.LeaderNew(1), "SET k 1")
	f := catchUp(t, l, impl.Follower{})
	a, b := doLeader(t, checkLead(t, f, 1), "SET k 2"), doLeader(t, checkLead(t, f, 3), "SET k 3", "SET n 4")
	if a.History != 2 || b.History != 2 || len(b.Server.Clients) != 3 {
		t.Fatalf("%+v, %+v", a, b)
	}
	g := catchUp(t, a, f)
	p := checkPack(t, b, g)
	if !p.Full {
		t.Errorf("%+v", p)
	}
	if next := catchUp(t, b, g); len(next.Base.Entries) != 2 || next.Base.Entries[0].Text != "3" {
		t.Errorf("%+v", next)
	}
	if _, ok := checkTake(t, g, impl.PackFor(b, catchUp(t, b, f))); ok {
		t.Error("what goes on from another file is taken")
	}
}
