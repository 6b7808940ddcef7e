package tests

import (
	"math"
	"math/rand/v2"
	"slices"
	"strconv"
	"strings"
	"testing"

	"loop.example/quincunx/impl"
)

func TestReplyOfEachKind(t *testing.T) {
	cases := []struct {
		reply impl.Reply
		want  string
	}{
		{impl.Reply{}, "+OK\r\n"},
		{impl.Reply{Kind: impl.ReplyOk, Num: 3, Text: "x", Texts: []string{"y"}, Many: []impl.Reply{{}}}, "+OK\r\n"},
		{impl.Reply{Kind: -1, Text: "x"}, "+OK\r\n"},
		{impl.Reply{Kind: 7, Text: "x"}, "+OK\r\n"},
		{impl.Reply{Kind: math.MinInt}, "+OK\r\n"},
		{impl.Reply{Kind: impl.ReplyErr, Text: "kind"}, "-kind\r\n"},
		{impl.Reply{Kind: impl.ReplyErr}, "-\r\n"},
		{impl.Reply{Kind: impl.ReplyInt, Num: 0}, ":0\r\n"},
		{impl.Reply{Kind: impl.ReplyInt, Num: -1000000000}, ":-1000000000\r\n"},
		{impl.Reply{Kind: impl.ReplyInt, Num: math.MaxInt}, ":9223372036854775807\r\n"},
		{impl.Reply{Kind: impl.ReplyInt, Num: math.MinInt}, ":-9223372036854775808\r\n"},
		{impl.Reply{Kind: impl.ReplyText}, "$0\r\n\r\n"},
		{impl.Reply{Kind: impl.ReplyText, Text: "\r\n\x00\xff"}, "$4\r\n\r\n\x00\xff\r\n"},
		{impl.Reply{Kind: impl.ReplyText, Text: "\u00e9"}, "$2\r\n\u00e9\r\n"},
		{impl.Reply{Kind: impl.ReplyText, Text: tooLong}, "$41\r\n" + tooLong + "\r\n"},
		{impl.Reply{Kind: impl.ReplyNone, Num: 5, Text: "x"}, "$-1\r\n"},
		{impl.Reply{Kind: impl.ReplyTexts}, "*0\r\n"},
		{impl.Reply{Kind: impl.ReplyTexts, Texts: []string{"", "ab"}}, "*2\r\n$0\r\n\r\n$2\r\nab\r\n"},
		{impl.Reply{Kind: impl.ReplyTexts, Texts: make([]string, 11)}, "*11\r\n" + strings.Repeat("$0\r\n\r\n", 11)},
		{impl.Reply{Kind: impl.ReplyMany}, "*0\r\n"},
		{impl.Reply{Kind: impl.ReplyMany, Many: []impl.Reply{{Kind: impl.ReplyMany, Many: []impl.Reply{{Kind: impl.ReplyNone}}}, {Kind: 9}}}, "*2\r\n*1\r\n$-1\r\n+OK\r\n"},
	}
	for i, c := range cases {
		if got := impl.ReplyPut(c.reply); got != c.want {
			t.Errorf("%d: %q, not %q", i, got, c.want)
		}
	}
}

func anyReply(c *rand.Rand, deep int) impl.Reply {
	r := impl.Reply{Kind: c.IntN(9) - 1, Num: c.IntN(2001) - 1000, Text: anyText(c), Texts: anyTexts(c, 4)}
	if deep > 0 {
		for range c.IntN(4) {
			r.Many = append(r.Many, anyReply(c, deep-1))
		}
	}
	return r
}

// P1: a reply ends with a line end; of many it is each of them, one behind the other.
func TestP1ReplyEndsItsLine(t *testing.T) {
	c := chance(1)
	for range 3000 {
		r := anyReply(c, 3)
		got := impl.ReplyPut(r)
		if !strings.HasSuffix(got, "\r\n") {
			t.Fatalf("%+v: %q", r, got)
		}
		r.Kind = impl.ReplyMany
		want := "*" + strconv.Itoa(len(r.Many)) + "\r\n"
		for _, one := range r.Many {
			want += impl.ReplyPut(one)
		}
		if got := impl.ReplyPut(r); got != want {
			t.Fatalf("many: %q, not %q", got, want)
		}
	}
}

// P1: of many it ends with each of them, however deep they lie.
func TestP1ReplyFarWithinOthers(t *testing.T) {
	for _, deep := range []int{1, 2, 3, 4, 5, 1023, 1024, 1025, 100000, 100001, 1 << 20, 1<<20 + 1} {
		r := impl.Reply{Kind: impl.ReplyInt, Num: 7}
		for range deep {
			r = impl.Reply{Kind: impl.ReplyMany, Many: []impl.Reply{r}}
		}
		if got := impl.ReplyPut(r); got != strings.Repeat("*1\r\n", deep)+":7\r\n" {
			t.Errorf("%d deep: %d bytes", deep, len(got))
		}
	}
}

func TestP1ReplyFarWithinOthersWithSomeBeside(t *testing.T) {
	const deep = 120000
	r := impl.Reply{Kind: impl.ReplyMany}
	for range deep {
		r = impl.Reply{Kind: impl.ReplyMany, Many: []impl.Reply{{Kind: impl.ReplyNone}, r, {Kind: impl.ReplyMany, Many: []impl.Reply{{}}}}}
	}
	want := strings.Repeat("*3\r\n$-1\r\n", deep) + "*0\r\n" + strings.Repeat("*1\r\n+OK\r\n", deep)
	if got := impl.ReplyPut(r); got != want {
		t.Errorf("%d bytes, not %d", len(got), len(want))
	}
}

// P1: replies that come again and again, and do not hold themselves, are told each time.
func TestP1ReplyHeldTwice(t *testing.T) {
	r, want := impl.Reply{Kind: impl.ReplyInt, Num: 1}, ":1\r\n"
	for range 12 {
		one := impl.Reply{Kind: impl.ReplyMany, Many: []impl.Reply{r}}
		r = impl.Reply{Kind: impl.ReplyMany, Many: []impl.Reply{one, one}}
		want = "*2\r\n*1\r\n" + want + "*1\r\n" + want
		if got := impl.ReplyPut(r); got != want {
			t.Fatalf("%d bytes, not %d", len(got), len(want))
		}
	}
}

// A reply that holds itself has no text that ends: the call must end all the same.
func TestReplyThatHoldsItself(t *testing.T) {
	self := make([]impl.Reply, 2)
	self[0] = impl.Reply{Kind: impl.ReplyMany, Many: self}
	self[1] = impl.Reply{Kind: impl.ReplyMany, Many: self}
	if got := impl.ReplyPut(self[0]); got != "+OK\r\n" {
		t.Errorf("%d bytes", len(got))
	}
}

// round is a reply that comes to itself again behind so many others, and lies that far within others.
func round(others int, within int) impl.Reply {
	first := make([]impl.Reply, 2)
	r := impl.Reply{Kind: impl.ReplyMany, Many: first}
	for range others {
		r = impl.Reply{Kind: impl.ReplyMany, Many: []impl.Reply{{Kind: impl.ReplyNone}, r}}
	}
	first[1] = r
	for range within {
		r = impl.Reply{Kind: impl.ReplyMany, Many: []impl.Reply{{Kind: impl.ReplyMany}, r, {}}}
	}
	return r
}

func TestReplyThatHoldsItselfFarBehind(t *testing.T) {
	for _, others := range []int{0, 1, 2, 3, 4, 5, 7, 8, 9, 1000, 70000} {
		for _, within := range []int{0, 1, 2, 3, 4, 5, 1000, 70000} {
			if got := impl.ReplyPut(round(others, within)); got != "+OK\r\n" {
				t.Errorf("%d, %d: %d bytes", others, within, len(got))
			}
		}
	}
}

func TestOrderPutAtItsLimits(t *testing.T) {
	if got := impl.OrderPut([]string{""}); got != "*1\r\n$0\r\n\r\n" {
		t.Errorf("%q", got)
	}
	if got := impl.OrderPut([]string{"\r\n", "\x00\xff\xc3"}); got != "*2\r\n$2\r\n\r\n\r\n$3\r\n\x00\xff\xc3\r\n" {
		t.Errorf("%q", got)
	}
	if got := impl.OrderPut(slices.Repeat([]string{longest}, 8)); got != "*8\r\n"+strings.Repeat("$40\r\n"+longest+"\r\n", 8) {
		t.Errorf("%q", got)
	}
	for i, args := range [][]string{nil, {}, many(9), {tooLong}, {"a", "", tooLong}, append(many(7), tooLong), many(100)} {
		if got := impl.OrderPut(args); got != "" {
			t.Errorf("no order %d: %q", i, got)
		}
	}
}

// P2: an order is read back from its bytes, whatever stands behind.
func TestP2OrderReadBack(t *testing.T) {
	c := chance(2)
	for range 5000 {
		args := anyOrder(c)
		text := impl.OrderPut(args)
		for _, behind := range []string{"", "\r", "\r\n", "*", "x", text, anyText(c)} {
			got, n := impl.OrderGet(text + behind)
			if n != len(text) || !slices.Equal(got, args) {
				t.Fatalf("%q behind %q: %q, %d", args, behind, got, n)
			}
		}
	}
}

func TestP2OrderReadBackAtItsLimits(t *testing.T) {
	for size := 0; size <= 40; size++ {
		for words := 1; words <= 8; words++ {
			args := slices.Repeat([]string{longest[:size]}, words)
			text := impl.OrderPut(args)
			if got, n := impl.OrderGet(text + "*"); n != len(text) || !slices.Equal(got, args) {
				t.Fatalf("%d of %d: %q, %d", words, size, got, n)
			}
		}
	}
}

// P3: a beginning is not whole yet, and what is none never becomes one.
func TestP3ByteByByte(t *testing.T) {
	c := chance(3)
	for range 2000 {
		args := anyOrder(c)
		text := impl.OrderPut(args)
		for i := range len(text) {
			if got, n := impl.OrderGet(text[:i]); n != 0 || len(got) != 0 {
				t.Fatalf("%q: %q, %d", text[:i], got, n)
			}
		}
	}
}

func TestP3NoneStaysNone(t *testing.T) {
	c := chance(4)
	for range 3000 {
		text := spoiled(c, impl.OrderPut(anyOrder(c)))
		none := false
		for i := 0; i <= len(text); i++ {
			_, n := impl.OrderGet(text[:i])
			if none && n != -1 {
				t.Fatalf("%q is %d behind -1", text[:i], n)
			}
			none = n == -1
		}
	}
}

// spoiled is a text with one byte changed, put in, or taken away.
func spoiled(c *rand.Rand, text string) string {
	at := c.IntN(len(text))
	bytes := "*$\r\n0123456789-+ a\x00"
	b := bytes[c.IntN(len(bytes))]
	switch c.IntN(3) {
	case 0:
		return text[:at] + string(b) + text[at+1:]
	case 1:
		return text[:at] + string(b) + text[at:]
	default:
		return text[:at] + text[at+1:]
	}
}

// after is what stands behind one of the heads with which text begins; 0 if it is the beginning of one, and shorter; -1 if neither.
func after(text string, mark string, low int, high int) (rest string, n int, state int) {
	state = -1
	for i := low; i <= high; i++ {
		head := mark + strconv.Itoa(i) + "\r\n"
		if rest, ok := strings.CutPrefix(text, head); ok {
			return rest, i, 1
		}
		if strings.HasPrefix(head, text) {
			state = 0
		}
	}
	return "", 0, state
}

// orderByHeads reads an order as the document tells it: by trying each head that may be.
func orderByHeads(text string) ([]string, int) {
	rest, words, state := after(text, "*", 1, 8)
	if state < 1 {
		return nil, state
	}
	var args []string
	for range words {
		tail, size, state := after(rest, "$", 0, 40)
		if state < 1 {
			return nil, state
		}
		word := tail[:min(size, len(tail))]
		behind := tail[len(word):]
		if !strings.HasPrefix(behind, "\r\n") {
			if len(behind) < 2 && strings.HasPrefix("\r\n", behind) {
				return nil, 0
			}
			return nil, -1
		}
		args = append(args, word)
		rest = behind[2:]
	}
	return args, len(text) - len(rest)
}

func checkOrder(t *testing.T, text string) {
	t.Helper()
	want, most := orderByHeads(text)
	got, n := impl.OrderGet(text)
	if n != most || !slices.Equal(got, want) {
		t.Fatalf("%q: %q, %d, not %q, %d", text, got, n, want, most)
	}
	if n > 0 && impl.OrderPut(got) != text[:n] {
		t.Fatalf("%q is not written again", text)
	}
}

// P2, P3: what is read is written again, and all else is told apart as the document says.
func TestP2P3OrdersThatAreSpoiled(t *testing.T) {
	c := chance(5)
	for range 20000 {
		text := spoiled(c, impl.OrderPut(anyOrder(c)))
		checkOrder(t, text)
		checkOrder(t, text[:c.IntN(len(text)+1)])
		checkOrder(t, spoiled(c, text+"*"))
	}
}

func TestP2P3AllShortTexts(t *testing.T) {
	bytes := "*$\r\n0148-a"
	for _, text := range textsOver(bytes, 4) {
		checkOrder(t, text)
		checkOrder(t, "*1"+text)
		checkOrder(t, "*1\r\n"+text)
		checkOrder(t, "*1\r\n$"+text)
		checkOrder(t, "*2\r\n$1\r\n"+text)
		checkOrder(t, "*2\r\n$0\r\n\r\n"+text)
	}
	for b := range 256 {
		checkOrder(t, string([]byte{byte(b)}))
		checkOrder(t, "*1"+string([]byte{byte(b)}))
		checkOrder(t, "*1\r\n$4"+string([]byte{byte(b)}))
		checkOrder(t, "*1\r\n$1\r\n"+string([]byte{byte(b)}))
	}
}

func TestOrderGetAtItsLimits(t *testing.T) {
	cases := []struct {
		text string
		want int
	}{
		{"", 0}, {"*", 0}, {"*8", 0}, {"*8\r", 0}, {"*8\r\n", 0}, {"*1\r\n$40", 0}, {"*1\r\n$4", 0}, {"*1\r\n$0\r\n", 0},
		{"*1\r\n$40\r\n" + longest, 0}, {"*1\r\n$40\r\n" + longest + "\r", 0}, {"*1\r\n$40\r\n" + longest + "\r\n", 51},
		{"*9", -1}, {"*10", -1}, {"*0", -1}, {"*-", -1}, {"*\r", -1}, {"*1\r\n$\r", -1}, {"*1\r\n$41", -1}, {"*1\r\n$5", 0}, {"*1\r\n$50", -1},
		{"*1\r\n$00", -1}, {"*1\r\n$01", -1}, {"*1\r\n$400", -1}, {"*1\r\n$-1\r\n", -1}, {"*1\r\n$+1", -1}, {"*1\r\n$0\r\na", -1},
		{"+OK\r\n", -1}, {"GET k\r\n", -1}, {"*99999999999999999999", -1}, {"*1\r\n$18446744073709551617\r\n", -1},
	}
	for _, c := range cases {
		if got, n := impl.OrderGet(c.text); n != c.want || n <= 0 && len(got) != 0 {
			t.Errorf("%q: %q, %d, not %d", c.text, got, n, c.want)
		}
	}
}

// numberByGo reads a number as the document tells it: what would be written so, within bounds.
func numberByGo(text string) (int, bool) {
	n, err := strconv.Atoi(text)
	if err != nil || strconv.Itoa(n) != text || n < -1000000000 || n > 1000000000 {
		return 0, false
	}
	return n, true
}

// P4: a number is read back from its figures.
func TestP4NumbersReadBack(t *testing.T) {
	texts := append(textsOver("-+0129 a", 5), "1000000000", "-1000000000", "999999999", "-999999999", "1000000001", "-1000000001", "10000000000", "01000000000",
		"9223372036854775807", "-9223372036854775808", "18446744073709551616", "18446744073709551617", "-18446744073709551617", strings.Repeat("1", 5000), strings.Repeat("0", 5000),
		"1e3", "0x1", "1_0", "\u0661", "1\x00", "1\r\n", "--1", "-", "+1", "-+1")
	for _, text := range texts {
		checkNumber(t, text)
	}
	c := chance(6)
	for range 20000 {
		checkNumber(t, strconv.Itoa(c.IntN(2000000021)-1000000010))
		checkNumber(t, strconv.Itoa(c.IntN(2001)-1000))
	}
}

func checkNumber(t *testing.T, text string) {
	t.Helper()
	want, fine := numberByGo(text)
	n, ok := impl.IntGet(text)
	if n != want || ok != fine {
		t.Fatalf("%q: %d, %v, not %d, %v", text, n, ok, want, fine)
	}
	if ok && impl.ReplyPut(impl.Reply{Kind: impl.ReplyInt, Num: n}) != ":"+text+"\r\n" {
		t.Fatalf("%q is not written again", text)
	}
}

// matchByTrying is Match as the document tells it, each way tried.
func matchByTrying(pattern string, text string) bool {
	if pattern == "" {
		return text == ""
	}
	if pattern[0] == '*' {
		return matchByTrying(pattern[1:], text) || text != "" && matchByTrying(pattern, text[1:])
	}
	return text != "" && (pattern[0] == '?' || pattern[0] == text[0]) && matchByTrying(pattern[1:], text[1:])
}

// P5: a star is any bytes, and a question mark any one.
func TestP5AllShortPatterns(t *testing.T) {
	texts := textsOver("ab*?", 4)
	for _, pattern := range texts {
		for _, text := range texts {
			if got := impl.Match(pattern, text); got != matchByTrying(pattern, text) {
				t.Fatalf("%q, %q: %v", pattern, text, got)
			}
		}
	}
}

func TestP5Matches(t *testing.T) {
	c := chance(7)
	for range 20000 {
		pattern, text := anyPattern(c), anyText(c)
		if c.IntN(2) == 0 {
			text = shortText(c)
		}
		if !impl.Match(text, text) || !impl.Match("*", text) {
			t.Fatalf("%q is not as itself, or a star", text)
		}
		is := impl.Match(pattern, text)
		if is != matchByTrying(pattern, text) {
			t.Fatalf("%q, %q: %v", pattern, text, is)
		}
		b := string([]byte{byte(c.IntN(256))})
		if is && !(impl.Match("*"+pattern, text) && impl.Match(pattern+"*", text) && impl.Match("?"+pattern, b+text)) {
			t.Fatalf("%q, %q: not with more", pattern, text)
		}
	}
}

func anyPattern(c *rand.Rand) string {
	parts := []string{"*", "*", "?", "a", "b", "\xff", "\r"}
	pattern := ""
	for range c.IntN(7) {
		pattern += parts[c.IntN(len(parts))]
	}
	return pattern
}

func shortText(c *rand.Rand) string {
	text := ""
	for range c.IntN(9) {
		text += "aab\xff\r"[c.IntN(5):][:1]
	}
	return text
}

func TestMatchGoesByBytes(t *testing.T) {
	if impl.Match("?", "\u00e9") || !impl.Match("??", "\u00e9") || !impl.Match("?", "\xff") || !impl.Match("?", "\x00") || !impl.Match("a*", "a\r\n\x00") {
		t.Error("a question mark is one byte")
	}
	if impl.Match("A", "a") || impl.Match("[a]", "a") || impl.Match("\\*", "*") || !impl.Match("\\*", "\\x") || !impl.Match("a.c", "a.c") || impl.Match("a.c", "abc") {
		t.Error("any other byte is itself")
	}
}

func TestMatchEndsOnLongTexts(t *testing.T) {
	text := strings.Repeat("a", 20000)
	pattern := strings.Repeat("*a", 3000)
	if !impl.Match(pattern, text) || impl.Match(pattern+"b", text) || !impl.Match(pattern+"*b", text+"b") || impl.Match(strings.Repeat("?", 20001), text) {
		t.Error("long texts")
	}
}
