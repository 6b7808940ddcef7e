package tests

import (
	"math/rand/v2"
	"slices"
	"strconv"
	"strings"
	"testing"

	"loop.example/quincunx/impl"
)

func sameReply(a impl.Reply, b impl.Reply) bool {
	return a.Kind == b.Kind && a.Num == b.Num && a.Text == b.Text && slices.Equal(a.Texts, b.Texts) && slices.EqualFunc(a.Many, b.Many, sameReply)
}

func isError(r impl.Reply, word string) bool {
	return sameReply(r, errorReply(word))
}

// line is words with one blank between; two blanks side by side have the empty word between them.
func line(s string) []string {
	return strings.Split(s, " ")
}

// checkDo holds Do against the model.
func checkDo(t *testing.T, b impl.Base, args []string) (impl.Base, impl.Reply) {
	t.Helper()
	want, said := modelDo(b, args)
	got, reply := impl.Do(b, args)
	if !sameReply(reply, said) {
		t.Fatalf("%q to %+v: the reply is %+v, not %+v", args, b, reply, said)
	}
	if !sameBase(got, want) || !impl.BaseOk(got) {
		t.Fatalf("%q to %+v: it is %+v, not %+v", args, b, got, want)
	}
	return got, reply
}

// step is an order, and its reply as ReplyPut writes it, with one blank for a line end, without the last.
type step struct {
	order string
	reply string
}

// checkSteps does orders one behind the other, and answers the base behind them.
func checkSteps(t *testing.T, b impl.Base, steps []step) impl.Base {
	t.Helper()
	for i, s := range steps {
		next, reply := checkDo(t, b, line(s.order))
		if got := strings.TrimSuffix(strings.ReplaceAll(impl.ReplyPut(reply), "\r\n", " "), " "); got != s.reply {
			t.Fatalf("step %d, %s: %s, not %s", i, s.order, got, s.reply)
		}
		b = next
	}
	return b
}

// doLines does orders that must not reply an error.
func doLines(t *testing.T, b impl.Base, lines ...string) impl.Base {
	t.Helper()
	for _, s := range lines {
		next, reply := impl.Do(b, line(s))
		if reply.Kind == impl.ReplyErr {
			t.Fatalf("%s: %s", s, reply.Text)
		}
		b = next
	}
	return b
}

// rightWord is a word as its letter wants it; a key is that of something of the order's kind.
func rightWord(o told, letter byte) string {
	switch letter {
	case 'K':
		return "k" + strconv.Itoa(max(o.kind, 1))
	case 'N':
		return "0"
	}
	return "a"
}

// orderAbout is an order all of whose keys are this one, its numbers 0, its texts "a".
func orderAbout(o told, key string) []string {
	letters, _ := o.lettersFor(len(o.form))
	args := []string{o.word}
	for i := range len(letters) {
		args = append(args, rightWord(o, letters[i]))
		if letters[i] == 'K' {
			args[i+1] = key
		}
	}
	return args
}

// anyFigures is a number, or now and then none.
func anyFigures(c *rand.Rand) string {
	few := []int{0, 1, -1, 2, -2, 3, -3, 5, 15, -16, 16, most, -most, most - 1, lastTime, lastTime + 1, 2 * lastTime, 2*lastTime + 1, -lastTime}
	switch c.IntN(12) {
	case 0:
		return []string{"", "x", "01", "-0", "+1", "1000000001", "-1000000001", "1 ", longest}[c.IntN(9)]
	case 1, 2, 3:
		return strconv.Itoa(c.IntN(40) - 20)
	}
	return strconv.Itoa(few[c.IntN(len(few))])
}

// anyWord is one of some twenty texts, so that lists come to be full, and texts are met again.
func anyWord(c *rand.Rand) string {
	switch c.IntN(10) {
	case 0:
		return anyText(c)
	case 1:
		return anyFigures(c)
	}
	return many(20)[c.IntN(20)]
}

// keyFor is one of few keys for each kind, so that most orders meet their own kind.
func keyFor(c *rand.Rand, kind int) string {
	switch c.IntN(40) {
	case 0:
		return []string{"", longKey, tooLong[:40]}[c.IntN(3)]
	case 1:
		return anyKey(c)
	}
	if kind == 0 || c.IntN(8) == 0 {
		kind = 1 + c.IntN(5)
	}
	return []string{"t", "l", "s", "z", "h"}[kind-1] + strconv.Itoa(c.IntN(4))
}

// someOrders is all orders, or those of one kind alone, such that put something more often, so that it grows.
func someOrders(c *rand.Rand) []told {
	kind := c.IntN(10)
	some := slices.DeleteFunc(allOrders(), func(o told) bool { return o.kind != kind })
	if kind == 0 || len(some) == 0 {
		return allOrders()
	}
	for _, o := range some {
		if strings.Contains(o.errors, "full") {
			some = append(some, o, o, o, o)
		}
	}
	return some
}

// anyLine is an order of these, mostly with as many words as told.
func anyLine(c *rand.Rand, orders []told) []string {
	o := orders[c.IntN(len(orders))]
	words := len(strings.TrimSuffix(o.form, "+"))
	if words < len(o.form) {
		words += c.IntN(8 - words)
	}
	letters, _ := o.lettersFor(words)
	args := []string{o.word}
	for _, letter := range letters {
		switch letter {
		case 'K':
			args = append(args, keyFor(c, o.kind))
		case 'N':
			args = append(args, anyFigures(c))
		default:
			args = append(args, anyWord(c))
		}
	}
	switch c.IntN(60) {
	case 0:
		args = args[:len(args)-1]
	case 1:
		args = append(args, anyWord(c))
	case 2:
		args[0] = strings.ToLower(args[0])
	case 3:
		args = args[:1]
	}
	if len(args) == 0 || len(args) > 8 {
		return []string{"DBSIZE"}
	}
	return args
}
