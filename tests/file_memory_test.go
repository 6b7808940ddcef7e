package tests

import (
	"slices"
	"testing"

	"loop.example/quincunx/impl"
)

// roomyOrders is orders all of whose lists have spare room.
func roomyOrders(orders [][]string) [][]string {
	var out [][]string
	for _, args := range orders {
		out = append(out, withRoom(args, "spare"))
	}
	return withRoom(out, nil)
}

func TestMemoryOfRecords(t *testing.T) {
	c := chance(101)
	lists := [][][]string{nil, {}, {nil}, notOrders(), slices.Repeat([][]string{{"INCR", "k"}}, 60), slices.Repeat([][]string{{"INCR", "k"}}, 61)}
	for range 100 {
		lists = append(lists, anyOrders(c, 10))
	}
	for _, orders := range lists {
		given := roomyOrders(orders)
		for _, now := range []int{-1, 0, 5, lastTime, lastTime + 1} {
			checkFresh(t, "RecordPut", []any{given}, func() []any { return []any{impl.RecordPut(now, given)} })
		}
		text := saved{5, orders}.text()
		for _, behind := range []string{"", "*", text} {
			checkFresh(t, "RecordGet", nil, func() []any { now, got, n := impl.RecordGet(text + behind); return []any{now, got, n} })
		}
	}
}

// Two orders that are one list are read back as two.
func TestMemoryOfOneOrderTwice(t *testing.T) {
	args := withRoom(line("RPUSH l a b"), "spare")
	_, orders, _ := impl.RecordGet(impl.RecordPut(5, [][]string{args, args, args[:2]}))
	checkAlone(t, "RecordGet", orders, args)
	if len(orders) != 3 || !slices.Equal(args[:cap(args)][:7], line("RPUSH l a b spare spare spare")) {
		t.Errorf("%q, %q", orders, args[:cap(args)])
	}
}

func TestMemoryOfFiles(t *testing.T) {
	c := chance(102)
	for range 60 {
		text := textOf(anyFile(c, 5)...)
		cut := text[:c.IntN(len(text))]
		checkFresh(t, "FileBase", nil, func() []any { b, n := impl.FileBase(text); return []any{b, n} })
		checkFresh(t, "FileBase", nil, func() []any { b, n := impl.FileBase(cut); return []any{b, n} })
	}
	for _, b := range append(someBases(), greatest()) {
		b = roomy(b)
		checkFresh(t, "FileOf", []any{b}, func() []any { return []any{impl.FileOf(b)} })
		text := impl.FileOf(b)
		checkFresh(t, "FileBase", []any{b}, func() []any { got, n := impl.FileBase(text); return []any{got, n} })
	}
}

func TestMemoryOfOrdersOfEntries(t *testing.T) {
	c := chance(103)
	entries := slices.Concat(rightEntries(), wrongEntries(), emptyEntries("k"), greatest().Entries)
	for range 200 {
		entries = append(entries, anyEntry(c, anyKey(c), 0))
	}
	for _, e := range entries {
		e = roomyEntry(e)
		checkFresh(t, "Orders", []any{e}, func() []any { return []any{impl.Orders(e)} })
	}
}

func TestMemoryOfFixed(t *testing.T) {
	orders := append(notOrders(), line("EXPIRE k 5"), line("EXPIRE k x"), line("EXPIRE k"), line("EXPIRE k 5 5"), line("EXPIREAT k 5"), line("RPUSH l a b c d e f"), line("FLUSH"))
	for _, args := range orders {
		args = withRoom(args, "spare")
		for _, now := range []int{-1, 0, 7, lastTime, lastTime + 1} {
			checkFresh(t, "Fixed", []any{args}, func() []any { return []any{impl.Fixed(now, args)} })
		}
	}
}
