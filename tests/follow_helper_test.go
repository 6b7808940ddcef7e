package tests

import (
	"math"
	"math/rand/v2"
	"slices"
	"testing"

	"loop.example/quincunx/impl"
)

// wrongHistories are numbers of no history that a leader may have; a follower may have 0.
var wrongHistories = []int{0, -1, -most, most + 1, math.MaxInt, math.MinInt}

func sameLeader(a impl.Leader, b impl.Leader) bool {
	return a.History == b.History && sameServer(a.Server, b.Server)
}

func sameFollower(a impl.Follower, b impl.Follower) bool {
	return a.History == b.History && a.Text == b.Text && sameBase(a.Base, b.Base)
}

func isNoLeader(l impl.Leader) bool {
	return sameLeader(l, impl.Leader{})
}

func isNoFollower(f impl.Follower) bool {
	return sameFollower(f, impl.Follower{})
}

func isNoReply(r impl.Reply) bool {
	return sameReply(r, impl.Reply{})
}

// leads is a leader that is a server in a history.
func leads(s impl.Server, history int) impl.Leader {
	return impl.Leader{Server: s, History: history}
}

// follows is a follower that has a file, and the base that it says at a time, by the model.
func follows(history int, text string, now int) impl.Follower {
	b, _ := fileByRecords(text)
	return impl.Follower{History: history, Text: text, Base: notOver(b, now)}
}

// hasAll is a follower that has just what a leader has.
func hasAll(l impl.Leader) impl.Follower {
	return impl.Follower{History: l.History, Text: l.Server.File, Base: l.Server.Base}
}

// recordEnds is how long each beginning of a file is that has whole records, nothing and all of it too.
func recordEnds(text string) []int {
	ends := []int{0}
	for size := 0; size < len(text); {
		_, more := recordByHeads(text[size:])
		if more == 0 {
			break
		}
		size += more
		ends = append(ends, size)
	}
	return ends
}

// checkLeaderDo holds LeaderDo against the model.
func checkLeaderDo(t *testing.T, l impl.Leader, client int, args []string) (impl.Leader, impl.Reply) {
	t.Helper()
	want, said := modelLeaderDo(l, client, args)
	got, reply := impl.LeaderDo(l, client, args)
	if !sameReply(reply, said) || !sameLeader(got, want) || !impl.LeaderOk(got) {
		t.Fatalf("%d %q to %+v: %+v, %+v, not %+v, %+v", client, args, l, got, reply, want, said)
	}
	return got, reply
}

func checkLeaderTick(t *testing.T, l impl.Leader, ticks int) impl.Leader {
	t.Helper()
	want := leads(modelTick(l.Server, ticks), l.History)
	got := impl.LeaderTick(l, ticks)
	if !sameLeader(got, want) || !impl.LeaderOk(got) {
		t.Fatalf("%d ticks of %+v: %+v, not %+v", ticks, l, got, want)
	}
	return got
}

func checkLeaderLess(t *testing.T, l impl.Leader) (impl.Leader, bool) {
	t.Helper()
	want, shorter := modelLeaderLess(l)
	got, ok := impl.LeaderLess(l)
	if ok != shorter || !sameLeader(got, want) || !impl.LeaderOk(got) {
		t.Fatalf("a shorter file of %+v: %+v, %t, not %+v", l, got, ok, want)
	}
	return got, ok
}

// checkPack holds PackFor and FollowerLag against the model.
func checkPack(t *testing.T, l impl.Leader, f impl.Follower) impl.Pack {
	t.Helper()
	want := modelPackFor(l, f)
	got, lag := impl.PackFor(l, f), impl.FollowerLag(l, f)
	if got != want || lag != len(want.Text) {
		t.Fatalf("%+v for %+v: %+v, %d behind, not %+v", l, f, got, lag, want)
	}
	return got
}

func checkTake(t *testing.T, f impl.Follower, p impl.Pack) (impl.Follower, bool) {
	t.Helper()
	want, goesOn := modelFollow(f, p)
	got, ok := impl.FollowerTake(f, p)
	if ok != goesOn || !sameFollower(got, want) {
		t.Fatalf("%+v taken by %+v: %+v, %t, not %+v, %t", p, f, got, ok, want, goesOn)
	}
	if modelFollowerOk(f) && !impl.FollowerOk(got) {
		t.Fatalf("%+v taken by %+v: %+v is not ok", p, f, got)
	}
	return got, ok
}

func checkAsk(t *testing.T, f impl.Follower, args []string) (impl.Reply, bool) {
	t.Helper()
	want, may := modelAsk(f, args)
	got, ok := impl.FollowerAsk(f, args)
	if ok != may || !sameReply(got, want) {
		t.Fatalf("%q of %+v: %+v, %t, not %+v, %t", args, f, got, ok, want, may)
	}
	return got, ok
}

func checkLead(t *testing.T, f impl.Follower, clients int) impl.Leader {
	t.Helper()
	want := modelLead(f, clients)
	got := impl.FollowerLead(f, clients)
	if !sameLeader(got, want) || impl.LeaderOk(got) == isNoLeader(got) {
		t.Fatalf("%+v leads %d clients: %+v, not %+v", f, clients, got, want)
	}
	return got
}

// aLeader is in history 4, at time 8: records end where each of its three orders did, and one entry passes away at 9.
func aLeader() impl.Leader {
	s := newServer(2)
	s.File = textOf(at(0, "SET k v"), at(2, "RPUSH l a b", "EXPIREAT l 9"), at(5, "SET n 1"))
	s.Base = impl.Base{Now: 8, Entries: []impl.Entry{{Key: "k", Kind: impl.IsText, Text: "v"}, {Key: "l", Kind: impl.IsList, List: []string{"a", "b"}, Until: 9}, {Key: "n", Kind: impl.IsText, Text: "1"}}}
	return leads(s, 4)
}

func anyHistory(c *rand.Rand) int {
	return []int{1, 1, 2, 3, 7, most - 1, most}[c.IntN(7)]
}

func anyLeader(c *rand.Rand, events int) impl.Leader {
	return leads(anyServer(c, events), anyHistory(c))
}

// anyFollower is ok, of a leader, or of another one; it is at most some ticks later.
func anyFollower(c *rand.Rand, l impl.Leader) impl.Follower {
	switch c.IntN(8) {
	case 0:
		return impl.Follower{}
	case 1:
		return hasAll(anyLeader(c, 12))
	case 2:
		return hasAll(leads(anyServer(c, 12), l.History))
	case 3:
		return impl.Follower{History: l.History}
	}
	ends := recordEnds(l.Server.File)
	text := l.Server.File[:ends[c.IntN(len(ends))]]
	b, _ := fileByRecords(text)
	now := b.Now + c.IntN(max(l.Server.Base.Now-b.Now, 0)+1)
	if c.IntN(8) == 0 {
		now = min(l.Server.Base.Now+c.IntN(3), lastTime)
	}
	f := follows(l.History, text, now)
	if c.IntN(8) == 0 {
		f.History = anyHistory(c)
	}
	return f
}

// spoiledPack is a pack of which something is another way.
func spoiledPack(c *rand.Rand, p impl.Pack) impl.Pack {
	switch c.IntN(9) {
	case 0:
		p.Full = !p.Full
	case 1:
		p.History = slices.Concat(wrongHistories, []int{p.History + 1, p.History - 1, 1})[c.IntN(9)]
	case 2:
		p.At += []int{1, -1, len(p.Text), -p.At, math.MinInt}[c.IntN(5)]
	case 3:
		p.Now += []int{1, -1, -p.Now, -p.Now - 1, lastTime - p.Now, lastTime - p.Now + 1}[c.IntN(6)]
	case 4:
		p.Text = p.Text[:c.IntN(len(p.Text)+1)]
	case 5:
		p.Text += anyText(c)
	case 6:
		p.Text += at(p.Now, "SET mark 1").text()
	case 7:
		p.Text += at(p.Now+1, "DBSIZE").text()
	case 8:
		p.Text = spoiled(c, p.Text+"*")
	}
	return p
}

// fullFollower has as long a Text as may be, or so many bytes more.
func fullFollower(t *testing.T, more int) impl.Follower {
	t.Helper()
	return hasAll(leads(fileWithLeft(t, -more), 3))
}

// rightFollowers are followers that are ok, at their limits.
func rightFollowers(t *testing.T) []impl.Follower {
	out := []impl.Follower{{}, {Base: impl.Base{Entries: []impl.Entry{}}}, {History: 1}, {History: most}, {History: 2, Base: impl.Base{Now: lastTime}}, fullFollower(t, 0), fullFollower(t, -1)}
	l := aLeader()
	for _, end := range recordEnds(l.Server.File) {
		for _, now := range []int{5, 8, 9, lastTime} {
			out = append(out, follows(1, l.Server.File[:end], now), follows(most, l.Server.File[:end], now))
		}
	}
	for _, s := range rightServers(t) {
		out = append(out, hasAll(leads(s, 2)))
	}
	return out
}

// wrongFollowers are followers that are not ok.
func wrongFollowers(t *testing.T) []impl.Follower {
	has := hasAll(aLeader())
	out := []impl.Follower{fullFollower(t, 1), fullFollower(t, 40), {Text: "x"}, {Text: has.Text}, {Base: impl.Base{Now: 1}}, {Base: impl.Base{Now: -1}}, {Base: impl.Base{Entries: has.Base.Entries[:1]}}, {Base: has.Base}, {Text: has.Text, Base: has.Base}}
	changed := func(change func(f *impl.Follower)) {
		f := hasAll(aLeader())
		change(&f)
		out = append(out, f)
	}
	for _, history := range wrongHistories {
		changed(func(f *impl.Follower) { f.History = history })
		if history != 0 {
			out = append(out, impl.Follower{History: history})
		}
	}
	for cut := 1; cut < len(has.Text); cut += 7 {
		changed(func(f *impl.Follower) { f.Text = f.Text[:len(f.Text)-cut] })
		changed(func(f *impl.Follower) { f.Text = f.Text[cut:] })
	}
	for _, behind := range []string{"x", "*", "\r\n", at(8, "DBSIZE").text()[:20], at(4, "DBSIZE").text(), at(8, "LPUSH k x").text(), at(8, "SET z 1").text(), at(9, "DBSIZE").text(), at(8, "NONE").text()} {
		changed(func(f *impl.Follower) { f.Text += behind })
	}
	for _, now := range []int{4, 0, -1, 9, 10, lastTime, lastTime + 1, math.MaxInt, math.MinInt} { // the list passes away at 9
		changed(func(f *impl.Follower) { f.Base.Now = now })
	}
	changed(func(f *impl.Follower) { f.Text = "" })
	changed(func(f *impl.Follower) { f.Base = impl.Base{} })
	changed(func(f *impl.Follower) { f.Base.Entries[0].Text = "w" })
	changed(func(f *impl.Follower) { f.Base.Entries[0].Until = 10 })
	changed(func(f *impl.Follower) { f.Base.Entries[1].Until = 10 })
	changed(func(f *impl.Follower) { f.Base.Entries[1].Kind = impl.IsSet })
	changed(func(f *impl.Follower) { f.Base.Entries = f.Base.Entries[1:] })
	changed(func(f *impl.Follower) { f.Base.Entries = append(f.Base.Entries, oneOfKind("z", 4)) })
	for _, b := range wrongBases() {
		out = append(out, impl.Follower{History: 1, Base: b}, impl.Follower{Base: b})
	}
	return out
}

// wrongLeaders are leaders that are not ok.
func wrongLeaders(t *testing.T) []impl.Leader {
	out := []impl.Leader{{}, {History: 1}, leads(newServer(4), 1)}
	for _, history := range wrongHistories {
		out = append(out, leads(smallServer(), history), leads(newServer(1), history))
	}
	for _, s := range wrongServers(t) {
		out = append(out, leads(s, 1))
	}
	return out
}
