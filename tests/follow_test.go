package tests

import (
	"math"
	"slices"
	"strings"
	"testing"

	"loop.example/quincunx/impl"
)

func TestLeaderNew(t *testing.T) {
	for clients := 1; clients <= 3; clients++ {
		if l := impl.LeaderNew(clients); !sameLeader(l, leads(newServer(clients), 1)) || !impl.LeaderOk(l) {
			t.Errorf("%d: %+v", clients, l)
		}
	}
	for _, clients := range []int{0, -1, 4, 5, 1000, math.MinInt, math.MaxInt} {
		if l := impl.LeaderNew(clients); !isNoLeader(l) || impl.LeaderOk(l) {
			t.Errorf("%d: %+v", clients, l)
		}
	}
}

func TestLeaderOk(t *testing.T) {
	for i, s := range rightServers(t) {
		for _, history := range []int{1, 2, most - 1, most} {
			if l := leads(s, history); !impl.LeaderOk(l) || !modelLeaderOk(l) {
				t.Errorf("right %d, history %d: %+v", i, history, l)
			}
		}
		for _, history := range wrongHistories {
			if impl.LeaderOk(leads(s, history)) {
				t.Errorf("right %d, history %d", i, history)
			}
		}
	}
	for i, l := range wrongLeaders(t) {
		if impl.LeaderOk(l) {
			t.Errorf("wrong %d: %+v", i, l)
		}
	}
}

func TestLeadersThatAreNotOk(t *testing.T) {
	followers := []impl.Follower{{}, {History: 1}, hasAll(leads(smallServer(), 1))}
	for _, l := range wrongLeaders(t) {
		for _, args := range [][]string{line("SET k v"), line("GET k"), line("MULTI"), line("NONE"), nil, {tooLong}} {
			for _, client := range []int{0, 1, -1, 9} {
				if got, reply := impl.LeaderDo(l, client, args); !isNoLeader(got) || !isError(reply, "server") {
					t.Fatalf("%d %q to %+v: %+v, %+v", client, args, l, got, reply)
				}
			}
		}
		for _, ticks := range []int{-1, 0, 1, lastTime, math.MaxInt} {
			if got := impl.LeaderTick(l, ticks); !isNoLeader(got) {
				t.Fatalf("%d ticks of %+v: %+v", ticks, l, got)
			}
		}
		if got, ok := impl.LeaderLess(l); ok || !isNoLeader(got) {
			t.Fatalf("a shorter file of %+v: %+v, %t", l, got, ok)
		}
		for _, f := range append(followers, impl.Follower{History: l.History}) {
			if p, lag := impl.PackFor(l, f), impl.FollowerLag(l, f); p != (impl.Pack{}) || lag != 0 {
				t.Fatalf("%+v for %+v: %+v, %d behind", l, f, p, lag)
			}
		}
	}
}

// A client that is none, and words that are no order, leave a leader as it is.
func TestLeaderDoOfNoClientAndNoOrder(t *testing.T) {
	for _, s := range rightServers(t) {
		l := leads(s, most)
		for _, client := range []int{-1, len(s.Clients), len(s.Clients) + 1, math.MinInt, math.MaxInt} {
			for _, order := range []string{"SET k v", "GET k", "MULTI", "EXEC", "SUBSCRIBE k", "NONE"} {
				if got, reply := checkLeaderDo(t, l, client, line(order)); !sameLeader(got, l) || !isError(reply, "server") {
					t.Fatalf("%d %s: %+v, %+v", client, order, got, reply)
				}
			}
		}
		for _, args := range notOrders() {
			for client := range s.Clients {
				if got, reply := checkLeaderDo(t, l, client, args); !sameLeader(got, l) || !isError(reply, "server") {
					t.Fatalf("%d %q: %+v, %+v", client, args, got, reply)
				}
			}
		}
	}
}

// LeaderLess with a history that none comes behind, and of files that cannot be made shorter, is as it is.
func TestLeaderLessAtItsLimits(t *testing.T) {
	long := fileWithLeft(t, 0)
	for _, history := range []int{1, 2, most - 1} {
		if got, ok := checkLeaderLess(t, leads(long, history)); !ok || got.History != history+1 || len(got.Server.File) > 200 {
			t.Errorf("history %d: %+v, %t", history, got, ok)
		}
	}
	if got, ok := checkLeaderLess(t, leads(long, most)); ok || !sameLeader(got, leads(long, most)) {
		t.Errorf("history IntMax: %+v, %t", got, ok)
	}
	one := doTurns(t, newServer(1), "0 SET k v")
	for _, s := range []impl.Server{newServer(3), one, checkServerTick(t, one, 10), withClient(busyClient())} {
		s, _ = modelLess(s)
		for _, history := range []int{1, most - 1, most} {
			if got, ok := checkLeaderLess(t, leads(s, history)); ok || !sameLeader(got, leads(s, history)) {
				t.Errorf("%+v: %+v, %t", s, got, ok)
			}
		}
	}
}

func TestFollowerOk(t *testing.T) {
	for i, f := range rightFollowers(t) {
		if !impl.FollowerOk(f) || !modelFollowerOk(f) {
			t.Errorf("right %d: %+v", i, f)
		}
	}
	for i, f := range wrongFollowers(t) {
		if impl.FollowerOk(f) {
			t.Errorf("wrong %d: %+v", i, f)
		}
	}
}

// A Text of FileMax bytes may be, one byte more may not.
func TestFollowerOkOfAFullText(t *testing.T) {
	for more := -3; more <= 3; more++ {
		f := fullFollower(t, more)
		if len(f.Text) != 6000+more || impl.FollowerOk(f) != (more <= 0) {
			t.Errorf("%d bytes: %t", len(f.Text), impl.FollowerOk(f))
		}
	}
}

// A Text is ok at the ends of its records alone, and with what they say alone, at their time and later.
func TestFollowerOkOfEachBeginning(t *testing.T) {
	text := aLeader().Server.File
	ends := recordEnds(text)
	for size := range len(text) + 1 {
		b, _ := fileByRecords(text[:size])
		for now := -1; now <= 10; now++ {
			f := impl.Follower{History: 1, Text: text[:size], Base: notOver(b, now)}
			may := slices.Contains(ends, size) && now >= b.Now && now >= 0
			if impl.FollowerOk(f) != may {
				t.Fatalf("%d of %d bytes, at %d: %t", size, len(text), now, !may)
			}
			f.History = 0
			if none := size == 0 && now == 0; impl.FollowerOk(f) != none {
				t.Fatalf("%d bytes, at %d, in no history: %t", size, now, !none)
			}
		}
	}
}

func TestFollowersThatAreNotOk(t *testing.T) {
	l := aLeader()
	for _, f := range wrongFollowers(t) {
		if p, lag := impl.PackFor(l, f), impl.FollowerLag(l, f); p != (impl.Pack{}) || lag != 0 {
			t.Fatalf("%+v: %+v, %d behind", f, p, lag)
		}
		for _, p := range []impl.Pack{{}, impl.PackFor(l, impl.Follower{}), {History: f.History, At: len(f.Text), Now: f.Base.Now}, {Full: true, History: 1}} {
			if got, ok := impl.FollowerTake(f, p); ok || !isNoFollower(got) {
				t.Fatalf("%+v taken by %+v: %+v, %t", p, f, got, ok)
			}
		}
		for _, order := range []string{"GET k", "DBSIZE", "NONE", "SET k v"} {
			if reply, ok := impl.FollowerAsk(f, line(order)); ok || !isNoReply(reply) {
				t.Fatalf("%s of %+v: %+v, %t", order, f, reply, ok)
			}
		}
		for clients := range 5 {
			if got := impl.FollowerLead(f, clients); !isNoLeader(got) {
				t.Fatalf("%+v leads %d clients: %+v", f, clients, got)
			}
		}
	}
}

// What each kind of follower is to be sent.
func TestPackFor(t *testing.T) {
	l := aLeader()
	file, other := l.Server.File, textOf(at(0, "SET k w"))
	ends := recordEnds(file)
	full := impl.Pack{Full: true, History: 4, Text: file, Now: 8}
	behind := func(size int) impl.Pack { return impl.Pack{History: 4, At: size, Text: file[size:], Now: 8} }
	for _, c := range []struct {
		name string
		f    impl.Follower
		want impl.Pack
	}{
		{"nothing, of no history", impl.Follower{}, full},
		{"nothing", impl.Follower{History: 4}, behind(0)},
		{"nothing, at the leader's time", follows(4, "", 8), behind(0)},
		{"nothing, later", follows(4, "", 9), full},
		{"a record", follows(4, file[:ends[1]], 0), behind(ends[1])},
		{"a record, at the leader's time", follows(4, file[:ends[1]], 8), behind(ends[1])},
		{"a record, later", follows(4, file[:ends[1]], 9), full},
		{"two records", follows(4, file[:ends[2]], 2), behind(ends[2])},
		{"all", follows(4, file, 8), behind(ends[3])},
		{"all, earlier", follows(4, file, 5), behind(ends[3])},
		{"all, later", follows(4, file, 9), full},
		{"all, as late as can be", follows(4, file, lastTime), full},
		{"all and more", follows(4, file+at(8, "DBSIZE").text(), 8), full},
		{"all but the last one, and another one", follows(4, file[:ends[2]]+at(5, "SET n 2").text(), 8), full},
		{"another file", follows(4, other, 0), full},
		{"another file, that has the same base", follows(4, fileByHand(l.Server.Base), 8), full},
		{"all, of the history ahead", follows(3, file, 8), full},
		{"all, of the next history", follows(5, file, 8), full},
		{"a record, of the first history", follows(1, file[:ends[1]], 0), full},
		{"nothing, of the last history", impl.Follower{History: most}, full},
	} {
		if got := checkPack(t, l, c.f); got != c.want {
			t.Errorf("%s: %+v, not %+v", c.name, got, c.want)
		}
	}
}

// takes is what a follower is asked to take, and whether it is to.
type takes struct {
	name   string
	change func(p *impl.Pack)
	ok     bool
}

func checkTakes(t *testing.T, f impl.Follower, p impl.Pack, list []takes) {
	t.Helper()
	for _, c := range list {
		next := p
		c.change(&next)
		got, ok := checkTake(t, f, next)
		if ok != c.ok || !ok && !sameFollower(got, f) {
			t.Errorf("%s: %+v, %t", c.name, got, ok)
		}
	}
}

// Of a pack that goes on each part is asked.
func TestFollowerTakeOfWhatGoesOn(t *testing.T) {
	l := aLeader()
	ends := recordEnds(l.Server.File)
	f := follows(4, l.Server.File[:ends[1]], 6)
	p := checkPack(t, l, f)
	left := p.Text[:ends[2]-ends[1]]
	list := []takes{
		{"as it is", func(p *impl.Pack) {}, true},
		{"a record less", func(p *impl.Pack) { p.Text = left }, true},
		{"nothing", func(p *impl.Pack) { p.Text = "" }, true},
		{"nothing, at the follower's time", func(p *impl.Pack) { p.Text, p.Now = "", 6 }, true},
		{"nothing, earlier than the follower", func(p *impl.Pack) { p.Text, p.Now = "", 5 }, false},
		{"earlier than the follower", func(p *impl.Pack) { p.Now = 5 }, false},
		{"at the follower's time", func(p *impl.Pack) { p.Now = 6 }, true},
		{"as late as can be", func(p *impl.Pack) { p.Now = lastTime }, true},
		{"later than can be", func(p *impl.Pack) { p.Now = lastTime + 1 }, false},
		{"as late as a number is", func(p *impl.Pack) { p.Now = math.MaxInt }, false},
		{"ahead of all time", func(p *impl.Pack) { p.Now = -1 }, false},
		{"a byte ahead", func(p *impl.Pack) { p.At-- }, false},
		{"a byte behind", func(p *impl.Pack) { p.At++ }, false},
		{"from the beginning", func(p *impl.Pack) { p.At = 0 }, false},
		{"from where it ends", func(p *impl.Pack) { p.At += len(p.Text) }, false},
		{"from below 0", func(p *impl.Pack) { p.At = -p.At }, false},
		{"a byte ahead, with that byte", func(p *impl.Pack) { p.At, p.Text = p.At-1, "\n"+p.Text }, false},
		{"another history", func(p *impl.Pack) { p.History = 5 }, false},
		{"the history ahead", func(p *impl.Pack) { p.History = 3 }, false},
		{"no history", func(p *impl.Pack) { p.History = 0 }, false},
		{"all of it", func(p *impl.Pack) { p.Full, p.Text = true, l.Server.File }, true},
		{"what is left, as if that were all", func(p *impl.Pack) { p.Full = true }, true},
		{"all once more, that goes on from time 0", func(p *impl.Pack) { p.Text = l.Server.File }, true},
		{"a text that is none", func(p *impl.Pack) { p.Text += "x" }, false},
		{"a record that replies an error", func(p *impl.Pack) { p.Text += at(8, "LPUSH k x").text() }, false},
		{"a record of no order", func(p *impl.Pack) { p.Text += at(8, "NONE").text() }, false},
		{"a record that goes back", func(p *impl.Pack) { p.Text += at(4, "DBSIZE").text() }, false},
		{"a record more", func(p *impl.Pack) { p.Text += at(8, "SET z 1").text() }, true},
		{"a record more, later than the pack", func(p *impl.Pack) { p.Text += at(9, "SET z 1").text() }, false},
	}
	checkTakes(t, f, p, list)
}

// Of a pack that is full nothing is asked that the follower has.
func TestFollowerTakeOfAll(t *testing.T) {
	l := aLeader()
	p := checkPack(t, l, impl.Follower{})
	list := []takes{
		{"as it is", func(p *impl.Pack) {}, true},
		{"another At", func(p *impl.Pack) { p.At = 7 }, true},
		{"an At below 0", func(p *impl.Pack) { p.At = math.MinInt }, true},
		{"the first history", func(p *impl.Pack) { p.History = 1 }, true},
		{"the last history", func(p *impl.Pack) { p.History = most }, true},
		{"no history", func(p *impl.Pack) { p.History = 0 }, false},
		{"behind the last history", func(p *impl.Pack) { p.History = most + 1 }, false},
		{"a history below 0", func(p *impl.Pack) { p.History = -1 }, false},
		{"at the time of its last record", func(p *impl.Pack) { p.Now = 5 }, true},
		{"ahead of its last record", func(p *impl.Pack) { p.Now = 4 }, false},
		{"at time 0", func(p *impl.Pack) { p.Now = 0 }, false},
		{"as late as can be", func(p *impl.Pack) { p.Now = lastTime }, true},
		{"later than can be", func(p *impl.Pack) { p.Now = lastTime + 1 }, false},
		{"ahead of all time", func(p *impl.Pack) { p.Now = -1 }, false},
		{"nothing", func(p *impl.Pack) { p.Text = "" }, true},
		{"nothing, at time 0", func(p *impl.Pack) { p.Text, p.Now = "", 0 }, true},
		{"nothing, ahead of all time", func(p *impl.Pack) { p.Text, p.Now = "", -1 }, false},
		{"nothing, later than can be", func(p *impl.Pack) { p.Text, p.Now = "", lastTime+1 }, false},
		{"a byte less", func(p *impl.Pack) { p.Text = p.Text[:len(p.Text)-1] }, false},
		{"a byte more", func(p *impl.Pack) { p.Text += "\n" }, false},
		{"without its first byte", func(p *impl.Pack) { p.Text = p.Text[1:] }, false},
		{"a record more, later than the pack", func(p *impl.Pack) { p.Text += at(9, "DBSIZE").text() }, false},
	}
	for _, f := range rightFollowers(t) {
		checkTakes(t, f, p, list)
	}
}

// A file of FileMax bytes is taken, one byte more is not: at once, and as what is behind.
func TestFollowerTakeOfAFullFile(t *testing.T) {
	for more := -2; more <= 2; more++ {
		file := fullFollower(t, more).Text
		ends := recordEnds(file)
		for _, size := range []int{0, ends[1], ends[len(ends)-2]} {
			f := follows(2, file[:size], 0)
			p := impl.Pack{History: 2, At: size, Text: file[size:], Now: 3}
			if got, ok := checkTake(t, f, p); ok != (more <= 0) || ok && got.Text != file {
				t.Errorf("%d bytes behind %d: %t", len(file)-size, size, ok)
			}
			p = impl.Pack{Full: true, History: 1, Text: file, Now: 3}
			if _, ok := checkTake(t, f, p); ok != (more <= 0) {
				t.Errorf("%d bytes at once: %t", len(file), ok)
			}
		}
	}
	long := impl.Pack{Full: true, History: 1, Text: strings.Repeat(at(0, "DBSIZE").text(), 1000), Now: 3}
	if got, ok := checkTake(t, impl.Follower{}, long); ok || !isNoFollower(got) {
		t.Errorf("%d bytes: %t", len(long.Text), ok)
	}
}

// The same pack is taken twice if it is full, or has nothing.
func TestFollowerTakeTwice(t *testing.T) {
	l := aLeader()
	for _, f := range rightFollowers(t) {
		p := checkPack(t, l, f)
		once, ok := checkTake(t, f, p)
		twice, again := checkTake(t, once, p)
		if may := p.Full || p.Text == ""; !ok || again != may || !sameFollower(twice, once) {
			t.Fatalf("%+v twice by %+v: %+v, %t", p, f, twice, again)
		}
	}
}

// A follower answers what does not change anything, errors too, and nothing else.
func TestFollowerAsk(t *testing.T) {
	f := hasAll(aLeader())
	for _, c := range []struct {
		order string
		reply string
	}{
		{"GET k", "$1 v"}, {"GET none", "$-1"}, {"STRLEN n", ":1"}, {"LRANGE l 0 -1", "*2 $1 a $1 b"}, {"TTL l", ":1"}, {"TTL k", ":-1"}, {"DBSIZE", ":3"}, {"KEYS *", "*3 $1 k $1 l $1 n"}, {"TYPE l", "$4 list"}, {"EXISTS k none k", ":2"},
		{"GET l", "-kind"}, {"GET", "-words"}, {"GET k k", "-words"}, {"GET ", "-key"}, {"LRANGE l 0 x", "-number"}, {"NONE", "-unknown"}, {"get k", "-unknown"}, {"", "-unknown"},
		{"MULTI", "-unknown"}, {"EXEC", "-unknown"}, {"DISCARD", "-unknown"}, {"WATCH k", "-unknown"}, {"UNWATCH", "-unknown"}, {"SUBSCRIBE w", "-unknown"}, {"PUBLISH w t", "-unknown"},
	} {
		if reply, ok := checkAsk(t, f, line(c.order)); !ok || replyLine(reply) != c.reply {
			t.Errorf("%s: %s, %t, not %s", c.order, replyLine(reply), ok, c.reply)
		}
	}
	for _, order := range []string{"SET k w", "SET k", "SET", "INCR n", "INCR k", "LPUSH k x", "DEL none", "LPOP none", "PERSIST k", "EXPIRE k 5", "EXPIREAT k 0", "RENAME none k", "FLUSH", "FLUSH x"} {
		if reply, ok := checkAsk(t, f, line(order)); ok || !isNoReply(reply) {
			t.Errorf("%s: %+v, %t", order, reply, ok)
		}
	}
	for _, args := range notOrders() {
		if reply, ok := checkAsk(t, f, args); ok || !isNoReply(reply) {
			t.Errorf("%q: %+v, %t", args, reply, ok)
		}
	}
}

// Each order, of each follower, is as the model has it.
func TestFollowerAskOfAllOrders(t *testing.T) {
	for _, f := range rightFollowers(t) {
		for _, o := range allOrders() {
			for _, key := range []string{"k", "l", longKey} {
				if _, ok := checkAsk(t, f, orderAbout(o, key)); ok == o.changes {
					t.Fatalf("%s: %t", orderAbout(o, key)[0], ok)
				}
			}
		}
	}
}

// Who has all lacks nothing, who has nothing lacks all.
func TestFollowerLagAtItsLimits(t *testing.T) {
	for _, s := range rightServers(t) {
		l := leads(s, 4)
		for _, c := range []struct {
			f    impl.Follower
			want int
		}{{hasAll(l), 0}, {impl.Follower{}, len(s.File)}, {impl.Follower{History: 4}, len(s.File)}, {hasAll(leads(s, 3)), len(s.File)}, {impl.Follower{History: most}, len(s.File)}} {
			if got := impl.FollowerLag(l, c.f); got != c.want {
				t.Errorf("%+v of %+v: %d, not %d", c.f, l, got, c.want)
			}
			checkPack(t, l, c.f)
		}
	}
}

func TestFollowerLeadAtItsLimits(t *testing.T) {
	has := hasAll(aLeader())
	for _, clients := range []int{0, 1, 2, 3, 4, -1, math.MinInt, math.MaxInt} {
		may := clients >= 1 && clients <= 3
		for _, history := range []int{1, 2, most - 2, most - 1} {
			has.History = history
			want := impl.Leader{}
			if may {
				want = leads(impl.Server{Base: has.Base, File: has.Text, Clients: make([]impl.Client, clients)}, history+1)
			}
			if got := checkLead(t, has, clients); !sameLeader(got, want) || impl.LeaderOk(got) != may {
				t.Errorf("history %d, %d clients: %+v", history, clients, got)
			}
		}
		has.History = most
		for _, f := range []impl.Follower{has, {}, {History: most}} {
			if got := checkLead(t, f, clients); !isNoLeader(got) {
				t.Errorf("%+v leads %d clients: %+v", f, clients, got)
			}
		}
	}
}

// Any leader, any follower and any pack are as the model has them.
func TestFollowOfAnyPacks(t *testing.T) {
	c := chance(233)
	taken, refused, full := 0, 0, 0
	for range 2500 {
		l := anyLeader(c, 20)
		f := anyFollower(c, l)
		p := checkPack(t, l, f)
		if c.IntN(3) > 0 {
			p = spoiledPack(c, p)
		}
		if p.Full {
			full++
		}
		if _, ok := checkTake(t, f, p); ok {
			taken++
		} else {
			refused++
		}
		checkAsk(t, f, anyServerOrder(c, allOrders()))
		checkLead(t, f, c.IntN(5))
	}
	if taken < 500 || refused < 500 || full < 500 {
		t.Errorf("%d taken, %d refused, %d are full", taken, refused, full)
	}
}
