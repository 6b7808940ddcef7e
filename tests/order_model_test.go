package tests

import (
	"maps"
	"slices"
	"strconv"
	"strings"

	"loop.example/quincunx/impl"
)

// told is what the document tells of an order: a letter for each word behind the first (K a key, N a number, T any other; + one or more of the last), the kind in brackets, whether it changes something, and errors that it may reply beside unknown, words, key and kind.
type told struct {
	word    string
	form    string
	kind    int
	changes bool
	errors  string
}

// allOrders is the table of the document.
func allOrders() []told {
	return []told{
		{"GET", "K", impl.IsText, false, ""},
		{"STRLEN", "K", impl.IsText, false, ""},
		{"SET", "KT", 0, true, "full"},
		{"APPEND", "KT", impl.IsText, true, "full long"},
		{"GETRANGE", "KNN", impl.IsText, false, "number"},
		{"INCR", "K", impl.IsText, true, "number full"},
		{"INCRBY", "KN", impl.IsText, true, "number full"},
		{"LPUSH", "KT+", impl.IsList, true, "full long"},
		{"RPUSH", "KT+", impl.IsList, true, "full long"},
		{"LPOP", "K", impl.IsList, true, ""},
		{"RPOP", "K", impl.IsList, true, ""},
		{"LLEN", "K", impl.IsList, false, ""},
		{"LRANGE", "KNN", impl.IsList, false, "number"},
		{"LTRIM", "KNN", impl.IsList, true, "number"},
		{"LSET", "KNT", impl.IsList, true, "number place"},
		{"LREM", "KNT", impl.IsList, true, "number"},
		{"SADD", "KT+", impl.IsSet, true, "full long"},
		{"SREM", "KT+", impl.IsSet, true, ""},
		{"SMEMBERS", "K", impl.IsSet, false, ""},
		{"SCARD", "K", impl.IsSet, false, ""},
		{"SISMEMBER", "KT", impl.IsSet, false, ""},
		{"SINTER", "KK", impl.IsSet, false, ""},
		{"SUNION", "KK", impl.IsSet, false, ""},
		{"SDIFF", "KK", impl.IsSet, false, ""},
		{"ZADD", "KNT", impl.IsScores, true, "number full long"},
		{"ZINCRBY", "KNT", impl.IsScores, true, "number full long"},
		{"ZREM", "KT", impl.IsScores, true, ""},
		{"ZSCORE", "KT", impl.IsScores, false, ""},
		{"ZRANK", "KT", impl.IsScores, false, ""},
		{"ZCARD", "K", impl.IsScores, false, ""},
		{"ZRANGE", "KNN", impl.IsScores, false, "number"},
		{"ZRANGEBYSCORE", "KNN", impl.IsScores, false, "number"},
		{"HSET", "KTT", impl.IsFields, true, "full long"},
		{"HINCRBY", "KTN", impl.IsFields, true, "number full long"},
		{"HGET", "KT", impl.IsFields, false, ""},
		{"HDEL", "KT", impl.IsFields, true, ""},
		{"HGETALL", "K", impl.IsFields, false, ""},
		{"HLEN", "K", impl.IsFields, false, ""},
		{"DEL", "K+", 0, true, ""},
		{"EXISTS", "K+", 0, false, ""},
		{"TYPE", "K", 0, false, ""},
		{"TTL", "K", 0, false, ""},
		{"PERSIST", "K", 0, true, ""},
		{"EXPIRE", "KN", 0, true, "number"},
		{"EXPIREAT", "KN", 0, true, "number"},
		{"RENAME", "KK", 0, true, "none"},
		{"KEYS", "T", 0, false, ""},
		{"DBSIZE", "", 0, false, ""},
		{"FLUSH", "", 0, true, ""},
	}
}

func orderOf(word string) (told, bool) {
	all := allOrders()
	at := slices.IndexFunc(all, func(o told) bool { return o.word == word })
	if at < 0 {
		return told{}, false
	}
	return all[at], true
}

// lettersFor is a letter for each of so many words behind the first; false if they are more or fewer than told.
func (o told) lettersFor(words int) (string, bool) {
	letters := strings.TrimSuffix(o.form, "+")
	if letters == o.form {
		return letters, words == len(letters)
	}
	for len(letters) < words {
		letters += letters[len(letters)-1:]
	}
	return letters, words == len(letters)
}

// thing is what stands under a key; of list, set, scores and fields just one is not empty.
type thing struct {
	until  int
	kind   int
	text   string
	list   []string
	set    map[string]bool
	scores map[string]int
	fields map[string]string
}

func (x thing) size() int {
	return len(x.list) + len(x.set) + len(x.scores) + len(x.fields)
}

// model is a base by maps: it does orders as the document tells them, with nothing of the program.
type model struct {
	now    int
	things map[string]thing
}

func modelOf(b impl.Base) model {
	m := model{now: b.Now, things: map[string]thing{}}
	for _, e := range b.Entries {
		x := emptyThing(e.Kind)
		x.until, x.text = e.Until, e.Text
		for _, text := range e.List {
			if e.Kind == impl.IsSet {
				x.set[text] = true
			} else {
				x.list = append(x.list, text)
			}
		}
		for _, s := range e.Scores {
			x.scores[s.Text] = s.Num
		}
		for _, p := range e.Fields {
			x.fields[p.Field] = p.Text
		}
		m.things[e.Key] = x
	}
	return m
}

func emptyThing(kind int) thing {
	return thing{kind: kind, set: map[string]bool{}, scores: map[string]int{}, fields: map[string]string{}}
}

func (m model) base() impl.Base {
	b := impl.Base{Now: m.now}
	for _, key := range slices.Sorted(maps.Keys(m.things)) {
		x := m.things[key]
		e := impl.Entry{Key: key, Until: x.until, Kind: x.kind, Text: x.text, List: x.list, Scores: rankedOf(x)}
		if x.kind == impl.IsSet {
			e.List = slices.Sorted(maps.Keys(x.set))
		}
		for _, field := range slices.Sorted(maps.Keys(x.fields)) {
			e.Fields = append(e.Fields, impl.Pair{Field: field, Text: x.fields[field]})
		}
		b.Entries = append(b.Entries, e)
	}
	return b
}

func rankedOf(x thing) []impl.Score {
	var out []impl.Score
	for text, num := range x.scores {
		out = append(out, impl.Score{Text: text, Num: num})
	}
	return inOrder(out)
}

// wrong is an error's word. It comes as a panic, so that each order is told without it.
type wrong string

func refuse(so bool, word string) {
	if so {
		panic(wrong(word))
	}
}

// modelDo is Do of a base that is ok, and an order.
func modelDo(b impl.Base, args []string) (next impl.Base, reply impl.Reply) {
	defer func() {
		switch x := recover().(type) {
		case nil:
		case wrong:
			next, reply = b, errorReply(string(x))
		default:
			panic(x)
		}
	}()
	m := modelOf(b)
	o, known := orderOf(args[0])
	refuse(!known, "unknown")
	letters, fit := o.lettersFor(len(args) - 1)
	refuse(!fit, "words")
	for i, word := range args[1:] {
		if letters[i] == 'K' {
			x, there := m.things[word]
			refuse(len(word) < 1 || len(word) > 12, "key")
			refuse(there && o.kind != 0 && o.kind != x.kind, "kind")
		}
	}
	var nums []int
	for i, word := range args[1:] {
		if letters[i] == 'N' {
			n, ok := numberByGo(word)
			refuse(!ok, "number")
			nums = append(nums, n)
		}
	}
	reply = m.do(o, args, nums)
	refuse(len(m.things) > 12, "full")
	return m.base(), reply
}

func numberReply(n int) impl.Reply        { return impl.Reply{Kind: impl.ReplyInt, Num: n} }
func textReply(s string) impl.Reply       { return impl.Reply{Kind: impl.ReplyText, Text: s} }
func textsReply(list []string) impl.Reply { return impl.Reply{Kind: impl.ReplyTexts, Texts: list} }
func noneReply() impl.Reply               { return impl.Reply{Kind: impl.ReplyNone} }
func errorReply(word string) impl.Reply   { return impl.Reply{Kind: impl.ReplyErr, Text: word} }

func yesReply(is bool) impl.Reply {
	if is {
		return numberReply(1)
	}
	return numberReply(0)
}

// do changes the model; what is empty then is gone.
func (m model) do(o told, args []string, nums []int) impl.Reply {
	if o.kind == 0 {
		return m.doAny(args, nums)
	}
	x, there := m.things[args[1]]
	if !there {
		x = emptyThing(o.kind)
	}
	var reply impl.Reply
	switch o.kind {
	case impl.IsText:
		reply = x.doText(args, nums, &there)
	case impl.IsList:
		reply = x.doList(args, nums)
	case impl.IsSet:
		reply = x.doSet(args, m)
	case impl.IsScores:
		reply = x.doScores(args, nums)
	case impl.IsFields:
		reply = x.doFields(args, nums)
	}
	if o.kind == impl.IsText && there || x.size() > 0 {
		m.things[args[1]] = x
	} else {
		delete(m.things, args[1])
	}
	return reply
}

// isBetween says whether a place of so many is from one place to another one.
func isBetween(place int, size int, from int, to int) bool {
	if from < 0 {
		from += size
	}
	if to < 0 {
		to += size
	}
	return from <= place && place <= to
}

func sum(text string, there bool, more int) int {
	n, ok := numberByGo(text)
	refuse(there && !ok, "number")
	n += more
	refuse(n < -most || n > most, "number")
	return n
}

// doText says whether the text is there then.
func (x *thing) doText(args []string, nums []int, there *bool) impl.Reply {
	was := *there
	switch args[0] {
	case "GET":
		if was {
			return textReply(x.text)
		}
		return noneReply()
	case "STRLEN":
		return numberReply(len(x.text))
	case "GETRANGE":
		var bytes []byte
		for i := range len(x.text) {
			if isBetween(i, len(x.text), nums[0], nums[1]) {
				bytes = append(bytes, x.text[i])
			}
		}
		return textReply(string(bytes))
	}
	*there = true
	if args[0] == "APPEND" {
		x.text += args[2]
		refuse(len(x.text) > 40, "long")
		return numberReply(len(x.text))
	}
	n := sum(x.text, was, append(nums, 1)[0])
	x.text = strconv.Itoa(n)
	return numberReply(n)
}

func (x *thing) doList(args []string, nums []int) impl.Reply {
	size := len(x.list)
	switch args[0] {
	case "LPUSH", "RPUSH":
		refuse(size+len(args)-2 > 16, "long")
		x.list, _ = pushed(x.list, args[0] == "LPUSH", args[2:])
		return numberReply(len(x.list))
	case "LPOP", "RPOP":
		if size == 0 {
			return noneReply()
		}
		first, last := x.list[0], x.list[size-1]
		if args[0] == "LPOP" {
			x.list = x.list[1:]
			return textReply(first)
		}
		x.list = x.list[:size-1]
		return textReply(last)
	case "LLEN":
		return numberReply(size)
	case "LRANGE":
		return textsReply(between(x.list, nums[0], nums[1]))
	case "LTRIM":
		x.list = between(x.list, nums[0], nums[1])
		return impl.Reply{}
	case "LSET":
		at := nums[0]
		if at < 0 {
			at += size
		}
		refuse(at < 0 || at >= size, "place")
		x.list[at] = args[3]
		return impl.Reply{}
	}
	gone := 0
	x.list, gone = dropped(x.list, nums[0], args[3])
	return numberReply(gone)
}

func (x *thing) doSet(args []string, m model) impl.Reply {
	was := len(x.set)
	switch args[0] {
	case "SADD":
		for _, text := range args[2:] {
			x.set[text] = true
		}
		refuse(len(x.set) > 16, "long")
		return numberReply(len(x.set) - was)
	case "SREM":
		for _, text := range args[2:] {
			delete(x.set, text)
		}
		return numberReply(was - len(x.set))
	case "SCARD":
		return numberReply(was)
	case "SISMEMBER":
		return yesReply(x.set[args[2]])
	}
	out := map[string]bool{}
	for text := range x.set {
		other := args[0] != "SMEMBERS" && m.things[args[2]].set[text]
		if args[0] != "SINTER" && args[0] != "SDIFF" || other == (args[0] == "SINTER") {
			out[text] = true
		}
	}
	if args[0] == "SUNION" {
		maps.Copy(out, m.things[args[2]].set)
	}
	return textsReply(slices.Sorted(maps.Keys(out)))
}

func (x *thing) doScores(args []string, nums []int) impl.Reply {
	ranked := rankedOf(*x)
	switch args[0] {
	case "ZCARD":
		return numberReply(len(ranked))
	case "ZRANGE", "ZRANGEBYSCORE":
		var out []string
		for rank, s := range ranked {
			by := args[0] == "ZRANGEBYSCORE" && nums[0] <= s.Num && s.Num <= nums[1]
			if by || args[0] == "ZRANGE" && isBetween(rank, len(ranked), nums[0], nums[1]) {
				out = append(out, s.Text)
			}
		}
		return textsReply(out)
	case "ZADD", "ZINCRBY":
		was, there := x.scores[args[3]]
		if args[0] == "ZADD" {
			was = 0
		}
		n := was + nums[0]
		x.scores[args[3]] = n
		refuse(len(x.scores) > 16 || n > most || n < -most, "long")
		if args[0] == "ZADD" {
			return yesReply(!there)
		}
		return numberReply(n)
	}
	rank := slices.Index(textsOf(ranked), args[2])
	switch {
	case args[0] == "ZREM":
		delete(x.scores, args[2])
		return yesReply(rank >= 0)
	case rank < 0:
		return noneReply()
	case args[0] == "ZSCORE":
		return numberReply(x.scores[args[2]])
	}
	return numberReply(rank)
}

func (x *thing) doFields(args []string, nums []int) impl.Reply {
	switch args[0] {
	case "HLEN":
		return numberReply(len(x.fields))
	case "HGETALL":
		var out []string
		for _, field := range slices.Sorted(maps.Keys(x.fields)) {
			out = append(out, field, x.fields[field])
		}
		return textsReply(out)
	}
	was, there := x.fields[args[2]]
	switch args[0] {
	case "HSET":
		x.fields[args[2]] = args[3]
		refuse(len(x.fields) > 16, "long")
		return yesReply(!there)
	case "HINCRBY":
		n := sum(was, there, nums[0])
		x.fields[args[2]] = strconv.Itoa(n)
		refuse(len(x.fields) > 16, "long")
		return numberReply(n)
	case "HDEL":
		delete(x.fields, args[2])
		return yesReply(there)
	}
	if there {
		return textReply(was)
	}
	return noneReply()
}

// doAny does orders that are of any kind.
func (m model) doAny(args []string, nums []int) impl.Reply {
	count := 0
	switch args[0] {
	case "SET":
		x := emptyThing(impl.IsText)
		x.text = args[2]
		m.things[args[1]] = x
		return impl.Reply{}
	case "DEL", "EXISTS":
		for _, key := range args[1:] {
			if _, there := m.things[key]; there {
				count++
			}
			if args[0] == "DEL" {
				delete(m.things, key)
			}
		}
		return numberReply(count)
	case "KEYS":
		var keys []string
		for key := range m.things {
			if len(args[1]) <= 12 && matchByTrying(args[1], key) {
				keys = append(keys, key)
			}
		}
		slices.Sort(keys)
		return textsReply(keys)
	case "DBSIZE":
		return numberReply(len(m.things))
	case "FLUSH":
		clear(m.things)
		return impl.Reply{}
	}
	return m.doTime(args, nums)
}

// doTime does orders of one entry, or of when it is over.
func (m model) doTime(args []string, nums []int) impl.Reply {
	x, there := m.things[args[1]]
	switch args[0] {
	case "TYPE":
		return textReply([]string{"none", "string", "list", "set", "zset", "hash"}[x.kind])
	case "TTL":
		switch {
		case !there:
			return numberReply(-2)
		case x.until == 0:
			return numberReply(-1)
		}
		return numberReply(x.until - m.now)
	case "RENAME":
		refuse(!there, "none")
		delete(m.things, args[1])
		m.things[args[2]] = x
		return impl.Reply{}
	case "PERSIST":
		had := x.until
		x.until = 0
		if there {
			m.things[args[1]] = x
		}
		return yesReply(had > 0)
	}
	until := nums[0]
	if args[0] == "EXPIRE" {
		until += m.now
		refuse(nums[0] > lastTime, "number")
	}
	refuse(nums[0] > 2*lastTime, "number")
	if !there {
		return numberReply(0)
	}
	x.until = until
	m.things[args[1]] = x
	if until <= m.now {
		delete(m.things, args[1])
	}
	return numberReply(1)
}
