package tests

import (
	"fmt"
	"math/rand/v2"
	"slices"
	"strconv"
	"testing"

	"loop.example/quincunx/impl"
)

// saved is a record by its parts.
type saved struct {
	now    int
	orders [][]string
}

// at is a record of orders that are told as lines.
func at(now int, lines ...string) saved {
	s := saved{now: now}
	for _, l := range lines {
		s.orders = append(s.orders, line(l))
	}
	return s
}

// wordsText is words as the wire has them, also such as are no order.
func wordsText(words ...string) string {
	text := fmt.Sprintf("*%d\r\n", len(words))
	for _, word := range words {
		text += fmt.Sprintf("$%d\r\n%s\r\n", len(word), word)
	}
	return text
}

// text is the record as the document tells it, with nothing of the program.
func (s saved) text() string {
	text := wordsText("AT", strconv.Itoa(s.now), strconv.Itoa(len(s.orders)))
	for _, args := range s.orders {
		text += wordsText(args...)
	}
	return text
}

func textOf(records ...saved) string {
	text := ""
	for _, s := range records {
		text += s.text()
	}
	return text
}

func sameSaved(a saved, b saved) bool {
	return a.now == b.now && slices.EqualFunc(a.orders, b.orders, slices.Equal[[]string])
}

// recordByHeads reads a record as the document tells it; 0 bytes if there is none.
func recordByHeads(text string) (saved, int) {
	head, size := orderByHeads(text)
	if size <= 0 || len(head) != 3 || head[0] != "AT" {
		return saved{}, 0
	}
	now, fine := numberByGo(head[1])
	count, right := numberByGo(head[2])
	if !fine || !right || now < 0 || now > lastTime || count < 1 || count > 60 {
		return saved{}, 0
	}
	s := saved{now: now}
	for range count {
		args, more := orderByHeads(text[size:])
		if more <= 0 {
			return saved{}, 0
		}
		s.orders = append(s.orders, args)
		size += more
	}
	return s, size
}

// doneBy is false if the record goes back in time, or one of its orders replies an error to the model.
func (s saved) doneBy(b impl.Base) (impl.Base, bool) {
	if s.now < b.Now {
		return b, false
	}
	next := notOver(b, s.now)
	for _, args := range s.orders {
		after, reply := modelDo(next, args)
		if reply.Kind == impl.ReplyErr {
			return b, false
		}
		next = after
	}
	return next, true
}

// fileByRecords is FileBase, with nothing of the program.
func fileByRecords(text string) (impl.Base, int) {
	b, size := impl.Base{}, 0
	for {
		s, more := recordByHeads(text[size:])
		next, done := s.doneBy(b)
		if more == 0 || !done {
			return b, size
		}
		b, size = next, size+more
	}
}

// checkFile holds FileBase against the model.
func checkFile(t *testing.T, text string) (impl.Base, int) {
	t.Helper()
	want, size := fileByRecords(text)
	got, n := impl.FileBase(text)
	if n != size || !sameBase(got, want) || !impl.BaseOk(got) {
		t.Fatalf("%q: %+v by %d bytes, not %+v by %d", text, got, n, want, size)
	}
	if again, m := impl.FileBase(text[:n]); m != n || !sameBase(again, got) {
		t.Fatalf("%q: %+v by %d bytes, alone %+v by %d", text[:n], got, n, again, m)
	}
	return got, n
}

// ordersByHand is Orders of an entry that is ok, with nothing of the program.
func ordersByHand(e impl.Entry) [][]string {
	var orders [][]string
	if e.Kind == impl.IsText {
		orders = append(orders, []string{"SET", e.Key, e.Text})
	}
	word := map[int]string{impl.IsList: "RPUSH", impl.IsSet: "SADD"}[e.Kind]
	for i, text := range e.List {
		if i%6 == 0 {
			orders = append(orders, []string{word, e.Key})
		}
		orders[len(orders)-1] = append(orders[len(orders)-1], text)
	}
	for _, s := range e.Scores {
		orders = append(orders, []string{"ZADD", e.Key, fmt.Sprint(s.Num), s.Text})
	}
	for _, p := range e.Fields {
		orders = append(orders, []string{"HSET", e.Key, p.Field, p.Text})
	}
	if e.Until > 0 {
		orders = append(orders, []string{"EXPIREAT", e.Key, fmt.Sprint(e.Until)})
	}
	return orders
}

func anyOrders(c *rand.Rand, most int) [][]string {
	orders := make([][]string, 1+c.IntN(most))
	for i := range orders {
		orders[i] = anyOrder(c)
	}
	return orders
}

// rightRecord is orders that reply no error to a base that is there by then.
func rightRecord(c *rand.Rand, b impl.Base, now int) saved {
	s := saved{now: now}
	count := 1 + c.IntN(6)
	if c.IntN(20) == 0 {
		count = 60
	}
	next, some := notOver(b, now), someOrders(c)
	for len(s.orders) < count {
		args := anyLine(c, some)
		if c.IntN(6) == 0 && len(next.Entries) > 0 {
			args = []string{"EXPIREAT", next.Entries[c.IntN(len(next.Entries))].Key, strconv.Itoa(now + c.IntN(4))}
		}
		if after, reply := modelDo(next, args); reply.Kind != impl.ReplyErr {
			next, s.orders = after, append(s.orders, args)
		}
	}
	return s
}

// anyFile is records that are done one behind the other; now and then one is not, and others are behind it.
func anyFile(c *rand.Rand, most int) []saved {
	var records []saved
	var b impl.Base
	for range 1 + c.IntN(most) {
		s := rightRecord(c, b, min(b.Now+c.IntN(4), lastTime))
		switch c.IntN(30) {
		case 0:
			s.now = max(b.Now-1, 0)
		case 1:
			s.orders[c.IntN(len(s.orders))] = anyLine(c, allOrders())
		case 2:
			s.now = anyNow(c)
		}
		records = append(records, s)
		b, _ = s.doneBy(b)
	}
	return records
}

// greatest is a base that has as much as any: EntryMax entries of ListMax scores or fields, each as long as can be, until as late as can be.
func greatest() impl.Base {
	b := impl.Base{Now: lastTime}
	for i, end := range many(12) {
		e := impl.Entry{Key: longestKey[:10] + end, Until: 2 * lastTime, Kind: impl.IsScores + i%2}
		for at, mark := range many(16) {
			text := longest[:38] + mark
			if e.Kind == impl.IsScores {
				e.Scores = append(e.Scores, impl.Score{Text: text, Num: at - most})
			} else {
				e.Fields = append(e.Fields, impl.Pair{Field: text, Text: longest})
			}
		}
		b.Entries = append(b.Entries, e)
	}
	return b
}
