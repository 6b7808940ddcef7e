// Package impl: a server of texts, lists, sets, scores and fields, that keeps what it did.
package impl

import (
	"math/bits"
	"strconv"
	"strings"
)

// Limits of what comes over a wire.
const (
	TextMax = 40
	ArgMax  = 8
	IntMax  = 1000000000
)

// Kinds of replies.
const (
	ReplyOk    = 0
	ReplyErr   = 1
	ReplyInt   = 2
	ReplyText  = 3
	ReplyNone  = 4
	ReplyTexts = 5
	ReplyMany  = 6
)

const (
	lineEnd = "\r\n"
	okLine  = "+OK" + lineEnd
)

// Reply is a word that all went well, an error, a number, a text, nothing, texts, or replies.
type Reply struct {
	Kind  int
	Num   int
	Text  string
	Texts []string
	Many  []Reply
}

// ReplyPut writes a reply.
func ReplyPut(r Reply) string {
	var out strings.Builder
	levels := []level{{many: []Reply{r}}} // not by recursion: replies may lie deeper than a stack goes
	for len(levels) > 0 {
		end := &levels[len(levels)-1]
		if end.told == len(end.many) {
			levels = levels[:len(levels)-1]
			continue
		}
		end.told++
		next := end.last()
		putHead(&out, next)
		if next.Kind != ReplyMany {
			continue
		}
		if holdsItself(levels) {
			return okLine
		}
		levels = append(levels, level{many: next.Many})
	}
	return out.String()
}

// level is replies side by side, of which so many are told; the last of these goes on in the level behind, if there is one.
type level struct {
	many []Reply
	told int
}

func (l *level) last() *Reply {
	return &l.many[l.told-1]
}

// holdsItself says whether the last reply comes again that lies at the last power of two ahead of it.
// Replies that hold themselves come round and round on the way down, so one of those places is met again, however long a round is; others never come twice on one way down.
func holdsItself(levels []level) bool {
	end := len(levels) - 1
	if end < 2 {
		return false
	}
	ahead := 1 << (bits.Len(uint(end-1)) - 1)
	return levels[ahead].last() == levels[end].last()
}

// putHead writes a reply, but for what it holds of others.
func putHead(out *strings.Builder, r *Reply) {
	switch r.Kind {
	case ReplyErr:
		out.WriteString("-" + r.Text + lineEnd)
	case ReplyInt:
		putNumber(out, ":", r.Num)
	case ReplyText:
		putText(out, r.Text)
	case ReplyNone:
		putNumber(out, "$", -1)
	case ReplyTexts:
		putTexts(out, r.Texts)
	case ReplyMany:
		putNumber(out, "*", len(r.Many))
	default:
		out.WriteString(okLine)
	}
}

func putNumber(out *strings.Builder, mark string, n int) {
	out.WriteString(mark + strconv.Itoa(n) + lineEnd)
}

func putText(out *strings.Builder, text string) {
	putNumber(out, "$", len(text))
	out.WriteString(text + lineEnd)
}

func putTexts(out *strings.Builder, texts []string) {
	putNumber(out, "*", len(texts))
	for _, text := range texts {
		putText(out, text)
	}
}

// OrderPut writes an order: words, each with its length ahead.
func OrderPut(args []string) string {
	if !orderOk(args) {
		return ""
	}
	var out strings.Builder
	putTexts(&out, args)
	return out.String()
}

func orderOk(args []string) bool {
	return len(args) >= 1 && len(args) <= ArgMax && textsOk(args)
}

func textsOk(texts []string) bool {
	for _, text := range texts {
		if len(text) > TextMax {
			return false
		}
	}
	return true
}

// OrderGet reads the first order of bytes: its words, and how many bytes it takes; 0 if it is not whole yet, -1 if it is none.
func OrderGet(text string) ([]string, int) {
	r := &orderReader{}
	r.step = r.star
	for at := range len(text) {
		if !r.step(text[at]) {
			return nil, -1
		}
		if r.whole() {
			return r.words, at + 1
		}
	}
	return nil, 0
}

// orderReader takes an order byte by byte; what it has of a number or of a word is in its Builder.
type orderReader struct {
	strings.Builder
	step  func(b byte) bool // what the next byte must be: false if no order goes on with it
	words []string
	many  int
	size  int
}

func (r *orderReader) whole() bool {
	return r.many > 0 && len(r.words) == r.many
}

func (r *orderReader) star(b byte) bool {
	r.step = r.manyFigure
	return b == '*'
}

func (r *orderReader) manyFigure(b byte) bool {
	if b != '\r' {
		return r.takeFigure(b, 1, ArgMax)
	}
	n, ok := r.takeNumber()
	r.many, r.step = n, r.manyEnd
	return ok
}

func (r *orderReader) manyEnd(b byte) bool {
	r.step = r.dollar
	return b == '\n'
}

func (r *orderReader) dollar(b byte) bool {
	r.step = r.sizeFigure
	return b == '$'
}

func (r *orderReader) sizeFigure(b byte) bool {
	if b != '\r' {
		return r.takeFigure(b, 0, TextMax)
	}
	n, ok := r.takeNumber()
	r.size, r.step = n, r.sizeEnd
	return ok
}

func (r *orderReader) sizeEnd(b byte) bool {
	r.stepInWord()
	return b == '\n'
}

func (r *orderReader) wordByte(b byte) bool {
	r.WriteByte(b)
	r.stepInWord()
	return true
}

func (r *orderReader) wordReturn(b byte) bool {
	r.step = r.wordEnd
	return b == '\r'
}

func (r *orderReader) wordEnd(b byte) bool {
	r.words = append(r.words, r.String())
	r.Reset()
	r.step = r.dollar
	return b == '\n'
}

func (r *orderReader) stepInWord() {
	if r.Len() < r.size {
		r.step = r.wordByte
	} else {
		r.step = r.wordReturn
	}
}

// takeFigure refuses a figure as soon as it leads out of low..high: no further figure would lead back.
func (r *orderReader) takeFigure(b byte, low int, high int) bool {
	r.WriteByte(b)
	n, ok := IntGet(r.String())
	return ok && low <= n && n <= high
}

func (r *orderReader) takeNumber() (int, bool) {
	figures := r.String()
	r.Reset()
	return IntGet(figures)
}

// IntGet reads a number, also below 0.
func IntGet(text string) (int, bool) {
	figures, below := strings.CutPrefix(text, "-")
	n, ok := figuresGet(figures)
	if !ok || below && n == 0 {
		return 0, false
	}
	if below {
		return -n, true
	}
	return n, true
}

func figuresGet(figures string) (int, bool) {
	if figures == "" || len(figures) > 1 && figures[0] == '0' {
		return 0, false
	}
	n := 0
	for at := range len(figures) {
		b := figures[at]
		if b < '0' || b > '9' {
			return 0, false
		}
		n = n*10 + int(b-'0')
		if n > IntMax { // asked at each figure, so that no length of text runs over
			return 0, false
		}
	}
	return n, true
}

func numberOk(n int) bool {
	return -IntMax <= n && n <= IntMax
}

// Match says whether a text is as a pattern: a question mark is any byte, a star any bytes.
func Match(pattern string, text string) bool {
	p, t := 0, 0
	star, taken := -1, 0 // only the last star need give way: what is ahead of it is matched as early as can be
	for t < len(text) {
		switch {
		case p < len(pattern) && pattern[p] == '*':
			star, taken = p, t
			p++
		case p < len(pattern) && (pattern[p] == '?' || pattern[p] == text[t]):
			p++
			t++
		case star >= 0:
			taken++
			p, t = star+1, taken
		default:
			return false
		}
	}
	return strings.Trim(pattern[p:], "*") == ""
}
