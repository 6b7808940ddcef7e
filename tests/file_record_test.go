package tests

import (
	"math"
	"slices"
	"strings"
	"testing"

	"loop.example/quincunx/impl"
)

// checkRecord holds RecordGet against the model, and what it reads against RecordPut.
func checkRecord(t *testing.T, text string) {
	t.Helper()
	want, size := recordByHeads(text)
	now, orders, n := impl.RecordGet(text)
	if got := (saved{now, orders}); n != size || !sameSaved(got, want) {
		t.Fatalf("%q: %+v of %d bytes, not %+v of %d", text, got, n, want, size)
	}
	if n > 0 && impl.RecordPut(now, orders) != text[:n] {
		t.Fatalf("%q is not put again", text)
	}
}

func checkNoRecord(t *testing.T, text string) {
	t.Helper()
	if now, orders, n := impl.RecordGet(text); now != 0 || len(orders) != 0 || n != 0 {
		t.Fatalf("%q: %d, %q, %d", text, now, orders, n)
	}
}

// checkReadBack puts a record, and reads it with each of these behind, and each of its beginnings, or some of a long one.
func checkReadBack(t *testing.T, s saved, behind ...string) {
	t.Helper()
	text := impl.RecordPut(s.now, s.orders)
	if text != s.text() {
		t.Fatalf("%+v is put as %q", s, text)
	}
	for _, more := range append(behind, "") {
		now, orders, n := impl.RecordGet(text + more)
		if got := (saved{now, orders}); n != len(text) || !sameSaved(got, s) {
			t.Fatalf("%q, and %q behind: %+v of %d bytes", text, more, got, n)
		}
	}
	for i := 0; i < len(text); i += 1 + len(text)/150 {
		checkNoRecord(t, text[:i])
	}
	checkNoRecord(t, text[:len(text)-1])
}

// P34: orders that were done together are read back together, or not at all.
func TestP34RecordReadBack(t *testing.T) {
	c := chance(91)
	for range 1500 {
		s := saved{anyNow(c), anyOrders(c, 6)}
		checkReadBack(t, s, anyText(c), "*", "\r\n", s.text(), wordsText("AT", "5", "2"))
	}
	for range 20 {
		checkReadBack(t, saved{anyNow(c), anyOrders(c, 60)}, anyText(c))
	}
}

func TestP34RecordBreaksOffAtEachByte(t *testing.T) {
	records := []saved{at(5, "SET k v", "RPUSH l a"), at(0, "DBSIZE"), at(lastTime, "NONE"), {7, [][]string{{""}, {"", "\r\n", "*1\r\n$1\r\na\r\n"}}}, {3, [][]string{slices.Repeat([]string{longest}, 8)}}, at(9, "AT 9 1", "AT 9 1")}
	for _, s := range records {
		text := s.text()
		for i := range len(text) {
			checkNoRecord(t, text[:i])
			if b, n := impl.FileBase(text[:i]); n != 0 || !isNothing(b) {
				t.Fatalf("%q: %+v, %d", text[:i], b, n)
			}
		}
		for behind := range 256 {
			checkRecord(t, text+string([]byte{byte(behind)}))
		}
		checkReadBack(t, s, text, text[:len(text)-1], "\x00", longest)
	}
}

// P34: each limit met exactly, and one more.
func TestP34RecordAtItsLimits(t *testing.T) {
	for _, now := range []int{0, 1, 9, 10, lastTime - 1, lastTime} {
		for _, count := range []int{1, 2, 9, 10, 59, 60} {
			checkReadBack(t, saved{now, slices.Repeat([][]string{{"INCR", "k"}}, count)}, "*")
			checkReadBack(t, saved{now, slices.Repeat([][]string{slices.Repeat([]string{longest}, 8)}, count)}, "x")
		}
	}
	fine := [][]string{{"INCR", "k"}}
	for _, now := range []int{-1, lastTime + 1, 2 * lastTime, most, -lastTime, math.MinInt, math.MaxInt} {
		if text := impl.RecordPut(now, fine); text != "" {
			t.Errorf("now %d: %q", now, text)
		}
		checkNoRecord(t, saved{now, fine}.text())
	}
	for _, count := range []int{0, 61, 62, 100, 1000} {
		orders := slices.Repeat(fine, count)
		if text := impl.RecordPut(5, orders); text != "" {
			t.Errorf("%d orders: %q", count, text)
		}
		checkNoRecord(t, saved{5, orders}.text())
	}
}

// What is no order makes no record, wherever it stands.
func TestRecordPutOfWhatIsNone(t *testing.T) {
	if text := impl.RecordPut(5, nil); text != "" {
		t.Errorf("none: %q", text)
	}
	for _, wrong := range notOrders() {
		for _, count := range []int{1, 2, 3, 60} {
			for _, place := range []int{0, count / 2, count - 1} {
				orders := slices.Repeat([][]string{{"INCR", "k"}}, count)
				orders[place] = wrong
				if text := impl.RecordPut(5, orders); text != "" {
					t.Errorf("%q in place %d of %d: %q", wrong, place, count, text)
				}
				checkNoRecord(t, saved{5, orders}.text())
			}
		}
	}
}

// A text that begins with no record has nothing, whatever is behind.
func TestRecordGetOfWhatIsNone(t *testing.T) {
	order := wordsText("SET", "k", "v")
	heads := [][]string{
		{"AT"}, {"AT", "5"}, {"AT", "5", "1", "1"}, {"AT", "5", "1", ""}, {"5", "1", "AT"}, {"at", "5", "1"}, {"At", "5", "1"}, {"AT ", "5", "1"}, {"", "5", "1"}, {"SET", "5", "1"},
		{"AT", "", "1"}, {"AT", "x", "1"}, {"AT", "05", "1"}, {"AT", "+5", "1"}, {"AT", "-1", "1"}, {"AT", "-0", "1"}, {"AT", "1000001", "1"}, {"AT", "1000000001", "1"}, {"AT", "18446744073709551621", "1"}, {"AT", "5 ", "1"},
		{"AT", "5", ""}, {"AT", "5", "x"}, {"AT", "5", "01"}, {"AT", "5", "0"}, {"AT", "5", "-1"}, {"AT", "5", "61"}, {"AT", "5", "1000000001"}, {"AT", "5", "18446744073709551617"}, {"AT", "5", "1 "}, {"AT", "5", "2"},
	}
	for _, head := range heads {
		checkNoRecord(t, wordsText(head...)+order)
	}
	for _, text := range []string{"", "x", "*", "\x00", order, order + at(5, "GET k").text(), "\r\n" + at(5, "GET k").text(), "*3\r\n$2\r\nAT\n", "*03\r\n$2\r\nAT\r\n$1\r\n5\r\n$1\r\n1\r\n" + order, "*3\r\n$02\r\nAT\r\n$1\r\n5\r\n$1\r\n1\r\n" + order} {
		checkNoRecord(t, text)
	}
	right := wordsText("AT", "5", "1")
	for _, text := range []string{"", "x", "$1\r\na\r\n", "*0\r\n" + order, "*9\r\n" + order, "*1\r\n$41\r\n" + tooLong + "\r\n", "*1\r\n$-1\r\n", "*1\r\n$1\r\nab\r\n", " " + order, order[:len(order)-1] + "\r"} {
		checkNoRecord(t, right+text)
	}
	checkRecord(t, right+order)
}

// P35: what is read as a record, put again, is just these bytes.
func TestP35WhatIsReadIsPutAgain(t *testing.T) {
	c := chance(92)
	read := 0
	for range 10000 {
		text := spoiled(c, saved{anyNow(c), anyOrders(c, 3)}.text()+anyText(c))
		checkRecord(t, text)
		checkRecord(t, text[:c.IntN(len(text)+1)])
		checkRecord(t, spoiled(c, text+"*"))
		if _, _, n := impl.RecordGet(text); n > 0 {
			read++
		}
	}
	if read < 1000 || read > 9000 {
		t.Errorf("%d of 10000 are records", read)
	}
}

func TestP35AllShortHeads(t *testing.T) {
	order := wordsText("DBSIZE")
	for _, now := range textsOver("0159-+ ", 3) {
		for _, count := range textsOver("016-", 2) {
			checkRecord(t, wordsText("AT", now, count)+strings.Repeat(order, 61))
		}
	}
	for _, text := range textsOver("*$\r\n1A", 4) {
		checkRecord(t, text)
		checkRecord(t, wordsText("AT", "1", "1")+text)
		checkRecord(t, wordsText("AT", "1", "1")+"*1\r\n$1\r\n"+text)
	}
}

// P35: a text of any bytes is a record or none, and no length of it is too much.
func TestP35OfAnyBytes(t *testing.T) {
	c := chance(93)
	for range 3000 {
		text := ""
		for range c.IntN(5) {
			text += anyText(c)
		}
		checkRecord(t, text)
		checkRecord(t, wordsText("AT", anyFigures(c), anyFigures(c))+text+wordsText(anyOrder(c)...))
	}
	checkNoRecord(t, strings.Repeat("*", 1000000))
	checkNoRecord(t, wordsText("AT", "5", "60")+strings.Repeat(wordsText("DBSIZE"), 59))
	checkRecord(t, wordsText("AT", "5", "60")+strings.Repeat(wordsText("DBSIZE"), 100000))
}
