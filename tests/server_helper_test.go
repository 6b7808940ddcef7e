package tests

import (
	"math"
	"math/rand/v2"
	"slices"
	"strconv"
	"strings"
	"testing"

	"loop.example/quincunx/impl"
)

func sameClient(a impl.Client, b impl.Client) bool {
	return a.Multi == b.Multi && a.Wrong == b.Wrong && a.Touch == b.Touch && slices.Equal(a.Watch, b.Watch) && slices.Equal(a.Hears, b.Hears) && slices.EqualFunc(a.Queue, b.Queue, slices.Equal[[]string])
}

func sameServer(a impl.Server, b impl.Server) bool {
	return a.File == b.File && sameBase(a.Base, b.Base) && slices.EqualFunc(a.Clients, b.Clients, sameClient)
}

func isNoServer(s impl.Server) bool {
	return sameServer(s, impl.Server{})
}

// newServer is ServerNew of as many clients as may be.
func newServer(clients int) impl.Server {
	return impl.Server{Clients: make([]impl.Client, clients)}
}

// checkServerDo holds ServerDo against the model.
func checkServerDo(t *testing.T, s impl.Server, client int, args []string) (impl.Server, impl.Reply, []impl.Message) {
	t.Helper()
	want, said, heard := modelServerDo(s, client, args)
	got, reply, messages := impl.ServerDo(s, client, args)
	if !sameReply(reply, said) || !slices.Equal(messages, heard) {
		t.Fatalf("%d %q to %+v: %+v, %+v, not %+v, %+v", client, args, s, reply, messages, said, heard)
	}
	if !sameServer(got, want) || !impl.ServerOk(got) {
		t.Fatalf("%d %q to %+v: it is %+v, not %+v", client, args, s, got, want)
	}
	return got, reply, messages
}

func checkServerTick(t *testing.T, s impl.Server, ticks int) impl.Server {
	t.Helper()
	got, want := impl.ServerTick(s, ticks), modelTick(s, ticks)
	if !sameServer(got, want) || !impl.ServerOk(got) {
		t.Fatalf("%d ticks of %+v: %+v, not %+v", ticks, s, got, want)
	}
	return got
}

func checkServerFall(t *testing.T, s impl.Server, client int, args []string, bytes int) impl.Server {
	t.Helper()
	got, want := impl.ServerFall(s, client, args, bytes), modelFall(s, client, args, bytes)
	if !sameServer(got, want) || !impl.ServerOk(got) {
		t.Fatalf("a fall at %d %q, with %d bytes, of %+v: %+v, not %+v", client, args, bytes, s, got, want)
	}
	return got
}

func checkServerLess(t *testing.T, s impl.Server) (impl.Server, bool) {
	t.Helper()
	want, shorter := modelLess(s)
	got, ok := impl.ServerLess(s)
	if ok != shorter || !sameServer(got, want) || !impl.ServerOk(got) {
		t.Fatalf("a shorter file of %+v: %+v, %t, not %+v", s, got, ok, want)
	}
	return got, ok
}

// turn is an order of a client, and its reply as ReplyPut writes it, with one blank for a line end, without the last.
type turn struct {
	client int
	order  string
	reply  string
}

func replyLine(r impl.Reply) string {
	return strings.TrimSuffix(strings.ReplaceAll(impl.ReplyPut(r), "\r\n", " "), " ")
}

// checkTurns does orders one behind the other, and answers the server behind them.
func checkTurns(t *testing.T, s impl.Server, turns ...turn) impl.Server {
	t.Helper()
	for i, u := range turns {
		next, reply, _ := checkServerDo(t, s, u.client, line(u.order))
		if got := replyLine(reply); got != u.reply {
			t.Fatalf("turn %d, %d %s: %s, not %s", i, u.client, u.order, got, u.reply)
		}
		s = next
	}
	return s
}

// doTurns is the server behind orders, each told as "CLIENT ORDER", that must not reply an error.
func doTurns(t *testing.T, s impl.Server, turns ...string) impl.Server {
	t.Helper()
	for _, u := range turns {
		words := line(u)
		client, _ := strconv.Atoi(words[0])
		next, reply, _ := checkServerDo(t, s, client, words[1:])
		if reply.Kind == impl.ReplyErr {
			t.Fatalf("%s: %s", u, reply.Text)
		}
		s = next
	}
	return s
}

// fileWithLeft is a server of two clients whose file has room for just so many bytes.
func fileWithLeft(t *testing.T, left int) impl.Server {
	t.Helper()
	setting := func(size int) saved { return at(0, "SET f "+longest[:size]) }
	var sizes [41]int
	for size := range sizes {
		sizes[size] = len(setting(size).text())
	}
	count := (fullFile-left)/sizes[40] - 2
	end := fullFile - left - count*sizes[40]
	for _, a := range []int{0, 40} {
		for b := range sizes {
			for c := range sizes {
				if sizes[a]+sizes[b]+sizes[c] == end {
					s := newServer(2)
					s.File = strings.Repeat(setting(40).text(), count) + textOf(setting(a), setting(b), setting(c))
					s.Base.Entries = []impl.Entry{{Key: "f", Kind: impl.IsText, Text: longest[:c]}}
					return s
				}
			}
		}
	}
	t.Fatalf("no file with %d bytes left", left)
	return impl.Server{}
}

// anyServerWords is an order that is a server's own, or now and then one with more or fewer words.
func anyServerWords(c *rand.Rand) []string {
	where := []string{"a", "b", "c", "d", "e", ""}
	own := [][]string{{"MULTI"}, {"MULTI"}, {"EXEC"}, {"EXEC"}, {"EXEC"}, {"DISCARD"}, {"UNWATCH"}, {"WATCH", keyFor(c, 0)}, {"WATCH", keyFor(c, 0), keyFor(c, 0)}, {"WATCH"},
		{"SUBSCRIBE", where[c.IntN(6)]}, {"SUBSCRIBE", where[c.IntN(6)]}, {"UNSUBSCRIBE", where[c.IntN(6)]}, {"PUBLISH", where[c.IntN(6)], anyText(c)}, {"PUBLISH", where[c.IntN(6)], "hi"}}
	args := own[c.IntN(len(own))]
	switch c.IntN(20) {
	case 0:
		args = append(args, anyWord(c))
	case 1:
		args = args[:max(1, len(args)-1)]
	}
	return args
}

// anyServerOrder is an order of any kind.
func anyServerOrder(c *rand.Rand, orders []told) []string {
	if c.IntN(3) == 0 {
		return anyServerWords(c)
	}
	if c.IntN(6) == 0 {
		return []string{"EXPIRE", keyFor(c, 0), strconv.Itoa(c.IntN(6) - 1)}
	}
	return anyLine(c, orders)
}

// anyEvent is mostly one that can be.
func anyEvent(c *rand.Rand, clients int, orders []told) impl.Event {
	e := impl.Event{Kind: 1, Client: c.IntN(clients), Args: anyServerOrder(c, orders), Num: c.IntN(120) - 5}
	switch c.IntN(24) {
	case 0, 1, 2:
		e.Kind, e.Num = 2, c.IntN(5)-1
	case 3:
		e.Kind = 3
	case 4:
		e.Kind = 4
	case 5:
		e.Kind = []int{0, 5, -1, math.MaxInt, math.MinInt}[c.IntN(5)]
	case 6:
		e.Client = []int{-1, clients, math.MaxInt, math.MinInt}[c.IntN(4)]
	case 7:
		e.Args = notOrders()[c.IntN(len(notOrders()))]
	case 8:
		e.Kind, e.Num = 2, []int{lastTime, lastTime + 1, math.MaxInt, math.MinInt}[c.IntN(4)]
	}
	return e
}

func anyEvents(c *rand.Rand, clients int, most int) []impl.Event {
	orders := someOrders(c)
	events := make([]impl.Event, c.IntN(most+1))
	for i := range events {
		events[i] = anyEvent(c, clients, orders)
	}
	return events
}

// anyServer is ok, made by the model, by what may happen.
func anyServer(c *rand.Rand, most int) impl.Server {
	s := newServer(1 + c.IntN(3))
	for _, e := range anyEvents(c, len(s.Clients), most) {
		s, _ = modelEvent(s, e)
	}
	return s
}

// withWatchers is a server some of whose entries pass away soon, and whose clients watch some of them.
func withWatchers(c *rand.Rand, s impl.Server) impl.Server {
	for _, e := range s.Base.Entries {
		if c.IntN(2) == 0 {
			s, _, _ = modelRun(s, [][]string{{"EXPIRE", e.Key, strconv.Itoa(1 + c.IntN(5))}})
		}
	}
	s = copyOfServer(s)
	for i := range s.Clients {
		watch := &s.Clients[i].Watch
		for _, e := range s.Base.Entries {
			if c.IntN(3) == 0 && len(*watch) < 4 && !slices.Contains(*watch, e.Key) {
				*watch = slices.Sorted(slices.Values(append(*watch, e.Key)))
			}
		}
	}
	return s
}

// busyClient gathers, watches and listens as much as may be.
func busyClient() impl.Client {
	return impl.Client{Multi: true, Wrong: true, Queue: slices.Repeat([][]string{{"SET", "k", longest}}, 6), Watch: []string{"a", "b", "k", longestKey}, Touch: true, Hears: []string{"", "a", "b", longest}}
}

// smallServer has a base, a file that says it, and two clients.
func smallServer() impl.Server {
	s := newServer(2)
	s.File = textOf(at(0, "SET k v"), at(2, "RPUSH l a b", "EXPIREAT l 9"))
	s.Base = impl.Base{Now: 5, Entries: []impl.Entry{{Key: "k", Kind: impl.IsText, Text: "v"}, {Key: "l", Kind: impl.IsList, List: []string{"a", "b"}, Until: 9}}}
	return s
}

// withClient is a small server whose last client is so.
func withClient(c impl.Client) impl.Server {
	s := smallServer()
	s.Clients[1] = c
	return s
}

// rightServers are servers that are ok, at their limits.
func rightServers(t *testing.T) []impl.Server {
	out := []impl.Server{newServer(1), newServer(2), newServer(3), smallServer(), withClient(busyClient()), fileWithLeft(t, 0), fileWithLeft(t, 1)}
	late := smallServer()
	late.Base = impl.Base{Now: lastTime, Entries: late.Base.Entries[:1]}
	full := newServer(3)
	full.Base = manyEntries(12, 7)
	full.File = fileByHand(full.Base)
	full.Clients = slices.Repeat([]impl.Client{busyClient()}, 3)
	out = append(out, late, full)
	for _, c := range []impl.Client{
		{Multi: true}, {Multi: true, Wrong: true}, {Multi: true, Queue: [][]string{{"NONE"}, {""}, {"MULTI"}, {"SET", "k"}}}, {Multi: true, Queue: [][]string{append([]string{longest}, many(7)...)}},
		{Watch: []string{"k"}}, {Watch: []string{"k"}, Touch: true}, {Watch: []string{"none"}}, {Multi: true, Watch: []string{"k"}, Touch: true},
		{Hears: []string{""}}, {Hears: []string{"k", longest}}, {Queue: [][]string{}, Watch: []string{}, Hears: []string{}},
	} {
		out = append(out, withClient(c))
	}
	return out
}

// wrongServers are servers that are not ok.
func wrongServers(t *testing.T) []impl.Server {
	out := []impl.Server{{}, newServer(0), newServer(4), newServer(50), fileWithLeft(t, -1), {Clients: []impl.Client{}}}
	changed := func(change func(s *impl.Server)) {
		s := smallServer()
		change(&s)
		out = append(out, s)
	}
	for _, clients := range []int{0, 4} {
		changed(func(s *impl.Server) { s.Clients = make([]impl.Client, clients) })
	}
	for _, behind := range []string{"x", "*", "\r\n", at(2, "DBSIZE").text()[:20], at(1, "DBSIZE").text(), at(2, "INCR k").text(), at(2, "SET z 1").text(), at(6, "DBSIZE").text(), at(2, "NONE").text()} {
		changed(func(s *impl.Server) { s.File += behind })
		changed(func(s *impl.Server) { s.File = behind + s.File })
	}
	for _, now := range []int{1, 0, -1, 9, 10, lastTime, lastTime + 1} {
		changed(func(s *impl.Server) { s.Base.Now = now })
	}
	for _, file := range []string{"", at(0, "SET k v").text(), at(0, "SET k v", "RPUSH l a b").text(), strings.Repeat(at(0, "DBSIZE").text(), 1000)} {
		changed(func(s *impl.Server) { s.File = file })
	}
	changed(func(s *impl.Server) { s.Base = impl.Base{Now: 5} })
	changed(func(s *impl.Server) { s.Base.Entries[0].Text = "w" })
	changed(func(s *impl.Server) { s.Base.Entries[0].Until = 10 })
	changed(func(s *impl.Server) { s.Base.Entries[0].Key = "j" })
	changed(func(s *impl.Server) { s.Base.Entries[1].List = []string{"a"} })
	changed(func(s *impl.Server) { s.Base.Entries[1].Kind = impl.IsSet })
	changed(func(s *impl.Server) { s.Base.Entries[1].Until = 8 })
	changed(func(s *impl.Server) { s.Base.Entries = s.Base.Entries[1:] })
	changed(func(s *impl.Server) { s.Base.Entries = append(s.Base.Entries, oneOfKind("z", 4)) })
	changed(func(s *impl.Server) { slices.Reverse(s.Base.Entries) })
	for i, b := range wrongBases() {
		if i%7 == 0 {
			changed(func(s *impl.Server) { s.Base = b })
		}
	}
	for _, c := range wrongClients() {
		out = append(out, withClient(c))
	}
	return out
}

func wrongClients() []impl.Client {
	out := []impl.Client{{Wrong: true}, {Queue: [][]string{{"GET", "k"}}}, {Touch: true}, {Multi: true, Touch: true}}
	changed := func(change func(c *impl.Client)) {
		c := busyClient()
		change(&c)
		out = append(out, c)
	}
	changed(func(c *impl.Client) { c.Multi = false })
	changed(func(c *impl.Client) { c.Queue = append(c.Queue, []string{"GET", "k"}) })
	changed(func(c *impl.Client) { c.Watch = nil })
	for _, args := range notOrders() {
		changed(func(c *impl.Client) { c.Queue[0] = args })
		changed(func(c *impl.Client) { c.Queue[5] = args })
	}
	for _, keys := range [][]string{{"", "a"}, {longKey}, {"a", longKey}, {"b", "a"}, {"a", "a"}, {"ab", "a"}, {"a", "b", "c", "d", "e"}, {"a", "c", "b"}} {
		changed(func(c *impl.Client) { c.Watch = keys })
		changed(func(c *impl.Client) { c.Watch, c.Touch = keys, false })
	}
	for _, words := range [][]string{{"b", "a"}, {"a", "a"}, {"a", ""}, {tooLong}, {"a", "b", "c", tooLong}, {"a", "b", "c", "d", "e"}, {"", "a", "b", "c", "d"}} {
		changed(func(c *impl.Client) { c.Hears = words })
		out = append(out, impl.Client{Hears: words})
	}
	return out
}
