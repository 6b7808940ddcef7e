package tests

import (
	"fmt"
	"slices"
	"strings"

	"loop.example/quincunx/impl"
)

const fullFile = 6000 // FileMax, as the document has it

// The model of a server: it does what the document tells, with nothing of the program but its types.

func copyOfServer(s impl.Server) impl.Server {
	clients := slices.Clone(s.Clients)
	for i, c := range clients {
		clients[i].Queue, clients[i].Watch, clients[i].Hears = slices.Clone(c.Queue), slices.Clone(c.Watch), slices.Clone(c.Hears)
	}
	return impl.Server{Base: s.Base, File: s.File, Clients: clients}
}

func isKey(word string) bool {
	return word != "" && len(word) <= 12
}

func isOrder(args []string) bool {
	return len(args) > 0 && len(args) <= 8 && slices.IndexFunc(args, func(word string) bool { return len(word) > 40 }) < 0
}

// isRising says whether texts are ascending, each once, at most four.
func isRising(texts []string) bool {
	return len(texts) <= 4 && slices.Equal(texts, slices.Compact(slices.Sorted(slices.Values(texts))))
}

func modelClientOk(c impl.Client) bool {
	for _, args := range c.Queue {
		if !isOrder(args) {
			return false
		}
	}
	for _, key := range c.Watch {
		if !isKey(key) {
			return false
		}
	}
	for _, word := range c.Hears {
		if len(word) > 40 {
			return false
		}
	}
	gathers := c.Multi || !c.Wrong && len(c.Queue) == 0
	return gathers && len(c.Queue) <= 6 && isRising(c.Watch) && isRising(c.Hears) && (!c.Touch || len(c.Watch) > 0)
}

// modelServerOk takes a base that is ok.
func modelServerOk(s impl.Server) bool {
	b, size := fileByRecords(s.File)
	for _, c := range s.Clients {
		if !modelClientOk(c) {
			return false
		}
	}
	return len(s.File) <= fullFile && size == len(s.File) && b.Now <= s.Base.Now && sameBase(notOver(b, s.Base.Now), s.Base) && len(s.Clients) >= 1 && len(s.Clients) <= 3
}

func fixedByHand(now int, args []string) []string {
	n, ok := 0, false
	if len(args) == 3 && args[0] == "EXPIRE" {
		n, ok = numberByGo(args[2])
	}
	if !ok {
		return args
	}
	return []string{"EXPIREAT", args[1], fmt.Sprint(now + n)}
}

// touchedBy is a server whose base is another one then.
func touchedBy(s impl.Server, next impl.Base) impl.Server {
	m := copyOfServer(s)
	m.Base = next
	for i, c := range s.Clients {
		for _, key := range c.Watch {
			was, there := entryAt(s.Base, key)
			is, still := entryAt(next, key)
			m.Clients[i].Touch = m.Clients[i].Touch || there != still || !sameEntry(was, is)
		}
	}
	return m
}

// modelRun is false of a file without room.
func modelRun(s impl.Server, orders [][]string) (impl.Server, []impl.Reply, bool) {
	b, kept := s.Base, saved{now: s.Base.Now}
	var replies []impl.Reply
	for _, args := range orders {
		next, reply := modelDo(b, args)
		if o, _ := orderOf(args[0]); o.changes && reply.Kind != impl.ReplyErr {
			kept.orders = append(kept.orders, fixedByHand(b.Now, args))
		}
		b, replies = next, append(replies, reply)
	}
	file := s.File
	if len(kept.orders) > 0 {
		file += kept.text()
	}
	if len(file) > fullFile {
		return s, nil, false
	}
	m := touchedBy(s, b)
	m.File = file
	return m, replies, true
}

// modelServerDo is ServerDo of a server that is ok, one of its clients, and an order.
func modelServerDo(s impl.Server, client int, args []string) (impl.Server, impl.Reply, []impl.Message) {
	m := copyOfServer(s)
	c := &m.Clients[client]
	name := args[0]
	if words := map[string]int{"MULTI": 1, "EXEC": 1, "DISCARD": 1, "UNWATCH": 1, "SUBSCRIBE": 2, "UNSUBSCRIBE": 2, "PUBLISH": 3}[name]; words != 0 && words != len(args) {
		name = "any other"
	}
	if c.Multi && name != "MULTI" && name != "EXEC" && name != "DISCARD" && name != "WATCH" {
		return m, modelGather(c, args), nil
	}
	switch name {
	case "MULTI":
		if c.Multi {
			return m, errorReply("gathers"), nil
		}
		c.Multi = true
	case "EXEC":
		m, reply := modelExec(m, client)
		return m, reply, nil
	case "DISCARD":
		if !c.Multi {
			return m, errorReply("alone"), nil
		}
		*c = impl.Client{Hears: c.Hears}
	case "WATCH":
		return m, modelWatch(c, args[1:]), nil
	case "UNWATCH":
		c.Watch, c.Touch = nil, false
	case "SUBSCRIBE", "UNSUBSCRIBE":
		return m, modelHear(c, name == "SUBSCRIBE", args[1]), nil
	case "PUBLISH":
		var messages []impl.Message
		for i, other := range m.Clients {
			if slices.Contains(other.Hears, args[1]) {
				messages = append(messages, impl.Message{Client: i, Where: args[1], Text: args[2]})
			}
		}
		return m, numberReply(len(messages)), messages
	default:
		m, replies, done := modelRun(m, [][]string{args})
		if !done {
			return m, errorReply("file"), nil
		}
		return m, replies[0], nil
	}
	return m, impl.Reply{}, nil
}

func modelGather(c *impl.Client, args []string) impl.Reply {
	o, known := orderOf(args[0])
	if _, fit := o.lettersFor(len(args) - 1); !known || !fit {
		c.Wrong = true
		return errorReply("words")
	}
	if len(c.Queue) == 6 {
		c.Wrong = true
		return errorReply("long")
	}
	c.Queue = append(c.Queue, args)
	return textReply("QUEUED")
}

func modelExec(s impl.Server, client int) (impl.Server, impl.Reply) {
	was := s.Clients[client]
	if !was.Multi {
		return s, errorReply("alone")
	}
	s.Clients[client] = impl.Client{Hears: was.Hears}
	if was.Wrong {
		return s, errorReply("gathered")
	}
	if was.Touch {
		return s, noneReply()
	}
	m, replies, done := modelRun(s, was.Queue)
	if !done {
		return m, errorReply("file")
	}
	return m, impl.Reply{Kind: impl.ReplyMany, Many: replies}
}

func modelWatch(c *impl.Client, keys []string) impl.Reply {
	for _, key := range keys {
		if !isKey(key) {
			return errorReply("key")
		}
	}
	all := slices.Compact(slices.Sorted(slices.Values(slices.Concat(c.Watch, keys))))
	switch {
	case c.Multi:
		return errorReply("gathers")
	case len(keys) == 0:
		return errorReply("words")
	case len(all) > 4:
		return errorReply("long")
	}
	c.Watch = all
	return impl.Reply{}
}

func modelHear(c *impl.Client, with bool, word string) impl.Reply {
	left := slices.DeleteFunc(slices.Clone(c.Hears), func(other string) bool { return other == word })
	if with {
		left = append(left, word)
		slices.Sort(left)
	}
	if len(left) > 4 {
		return errorReply("long")
	}
	c.Hears = left
	return numberReply(len(left))
}

func modelTick(s impl.Server, ticks int) impl.Server {
	if ticks < 0 || ticks > lastTime || s.Base.Now+ticks > lastTime {
		return s
	}
	return touchedBy(s, notOver(s.Base, s.Base.Now+ticks))
}

func modelFall(s impl.Server, client int, args []string, bytes int) impl.Server {
	next, _, _ := modelServerDo(s, client, args)
	behind := next.File[len(s.File):]
	if bytes < 0 {
		bytes = 0
	}
	if bytes < len(behind) {
		behind = behind[:bytes]
	}
	b, size := fileByRecords(s.File + behind)
	return impl.Server{Base: notOver(b, s.Base.Now), File: (s.File + behind)[:size], Clients: make([]impl.Client, len(s.Clients))}
}

func modelLess(s impl.Server) (impl.Server, bool) {
	text := fileByHand(s.Base)
	if len(text) >= len(s.File) {
		return s, false
	}
	m := copyOfServer(s)
	m.File = text
	return m, true
}

// modelEvent is false of what cannot be.
func modelEvent(s impl.Server, e impl.Event) (impl.Server, bool) {
	can := e.Client >= 0 && e.Client < len(s.Clients) && isOrder(e.Args)
	switch {
	case e.Kind == 1 && can:
		next, _, _ := modelServerDo(s, e.Client, e.Args)
		return next, true
	case e.Kind == 2:
		return modelTick(s, e.Num), true
	case e.Kind == 3 && can:
		return modelFall(s, e.Client, e.Args, e.Num), true
	case e.Kind == 4:
		return modelLess(s)
	}
	return s, false
}

// modelSession is Session, word by word.
func modelSession(lines []string) string {
	s := impl.Server{Clients: make([]impl.Client, 2)}
	var told []string
	for i, l := range lines {
		if i == 40 {
			break
		}
		next, answers := modelLine(s, strings.Split(l, " "))
		s, told = next, append(told, answers...)
	}
	out := ""
	for _, answer := range told {
		out += answer + "\n"
	}
	return out
}

func modelLine(s impl.Server, words []string) (impl.Server, []string) {
	what := []string{"what"}
	if slices.Equal(words, []string{"size"}) {
		return s, []string{fmt.Sprint(len(s.File))}
	}
	if slices.Equal(words, []string{"less"}) {
		next, shorter := modelLess(s)
		return next, []string{map[bool]string{true: "1", false: "0"}[shorter]}
	}
	if words[0] == "tick" && len(words) == 2 {
		n, ok := numberByGo(words[1])
		if !ok {
			return s, what
		}
		return modelTick(s, n), []string{"ok"}
	}
	falls, bytes := words[0] == "fall" && len(words) > 2, 0
	if falls {
		n, ok := numberByGo(words[2])
		if !ok {
			return s, what
		}
		bytes, words = n, slices.Concat(words[1:2], words[3:])
	}
	if words[0] != "0" && words[0] != "1" || !isOrder(words[1:]) {
		return s, what
	}
	client := int(words[0][0] - '0')
	if falls {
		return modelFall(s, client, words[1:], bytes), []string{"ok"}
	}
	next, reply, messages := modelServerDo(s, client, words[1:])
	answers := []string{toldReply(reply)}
	for _, m := range messages {
		answers = append(answers, fmt.Sprintf("to %d %s %s", m.Client, m.Where, m.Text))
	}
	return next, answers
}

func toldReply(r impl.Reply) string {
	switch r.Kind {
	case impl.ReplyErr:
		return "error " + r.Text
	case impl.ReplyInt:
		return fmt.Sprint(r.Num)
	case impl.ReplyText:
		return r.Text
	case impl.ReplyNone:
		return "none"
	case impl.ReplyTexts:
		return fmt.Sprint(r.Texts)
	case impl.ReplyMany:
		out := "("
		for i, one := range r.Many {
			if i > 0 {
				out += ", "
			}
			out += toldReply(one)
		}
		return out + ")"
	}
	return "ok"
}
