package tests

import (
	"fmt"
	"reflect"
	"slices"
	"strings"
	"testing"
	"unsafe"

	"loop.example/quincunx/impl"
)

// piece is the memory of one list, spare room included.
type piece struct {
	from uintptr
	to   uintptr
	name string
}

// pieces is the memory of all lists in a value, however deep.
func pieces(name string, v reflect.Value) []piece {
	var out []piece
	switch v.Kind() {
	case reflect.Slice:
		if size := uintptr(v.Cap()) * v.Type().Elem().Size(); size > 0 {
			from := uintptr(v.UnsafePointer())
			out = append(out, piece{from, from + size, name})
		}
		for i := range v.Len() {
			out = append(out, pieces(fmt.Sprintf("%s[%d]", name, i), v.Index(i))...)
		}
	case reflect.Struct:
		for i := range v.NumField() {
			out = append(out, pieces(name+"."+v.Type().Field(i).Name, v.Field(i))...)
		}
	case reflect.Interface:
		out = pieces(name, v.Elem())
	}
	return out
}

// tellWhole writes a value with all that lies behind the ends of its lists.
func tellWhole(out *strings.Builder, v reflect.Value) {
	switch v.Kind() {
	case reflect.Slice:
		fmt.Fprintf(out, "[%d:", v.Len())
		for i := range v.Cap() {
			tellWhole(out, v.Slice(0, v.Cap()).Index(i))
		}
		out.WriteString("]")
	case reflect.Struct:
		for i := range v.NumField() {
			tellWhole(out, v.Field(i))
		}
	default:
		fmt.Fprintf(out, "%q,", fmt.Sprint(v.Interface()))
	}
}

func whatIsIn(values []any) string {
	var out strings.Builder
	for _, v := range values {
		tellWhole(&out, reflect.ValueOf(v))
	}
	return out.String()
}

// checkFresh calls twice: nothing is written into what was given, and no list of an answer shares memory with another one, with what was given, or with the other answer.
func checkFresh(t *testing.T, name string, given []any, call func() []any) {
	t.Helper()
	was := whatIsIn(given)
	first := call()
	second := call()
	if whatIsIn(given) != was {
		t.Fatalf("%s: written into what was given: %+v", name, given)
	}
	if a, b := fmt.Sprintf("%+v", first), fmt.Sprintf("%+v", second); a != b {
		t.Fatalf("%s: not the same again: %s, %s", name, a, b)
	}
	var all []piece
	for _, side := range []struct {
		name   string
		values []any
	}{{"given", given}, {"first", first}, {"second", second}} {
		for i, v := range side.values {
			all = append(all, pieces(fmt.Sprintf("%s %d", side.name, i), reflect.ValueOf(v))...)
		}
	}
	slices.SortFunc(all, func(a piece, b piece) int {
		if a.from < b.from {
			return -1
		}
		return 1
	})
	for i := 1; i < len(all); i++ {
		if all[i-1].to > all[i].from {
			t.Fatalf("%s: %s and %s share memory, of %+v", name, all[i-1].name, all[i].name, given)
		}
	}
}

// TestPieces holds the check itself to what it must find.
func TestPieces(t *testing.T) {
	list := make([]string, 2, 4)
	behind := list[2:2:4]
	got := pieces("list", reflect.ValueOf(impl.Entry{List: list}))
	spare := pieces("behind", reflect.ValueOf(behind))
	if len(got) != 1 || len(spare) != 1 || got[0].to != spare[0].to || got[0].from != uintptr(unsafe.Pointer(unsafe.SliceData(list))) {
		t.Errorf("%+v, %+v", got, spare)
	}
}

func roomyEntry(e impl.Entry) impl.Entry {
	e.List = withRoom(e.List, "spare")
	e.Scores = withRoom(e.Scores, impl.Score{Text: "spare", Num: 77})
	e.Fields = withRoom(e.Fields, impl.Pair{Field: "spare", Text: "spare"})
	return e
}

// roomy is a base all of whose lists have spare room.
func roomy(b impl.Base) impl.Base {
	out := impl.Base{Now: b.Now}
	for _, e := range b.Entries {
		out.Entries = append(out.Entries, roomyEntry(e))
	}
	out.Entries = withRoom(out.Entries, roomyEntry(impl.Entry{Key: "spare", Kind: impl.IsList, List: []string{"spare"}}))
	return out
}

func someBases() []impl.Base {
	c := chance(81)
	out := append(wrongBases()[:20], impl.Base{}, manyEntries(11, 3), manyEntries(12, 3))
	for range 12 {
		out = append(out, anyBase(c, 12))
	}
	return out
}

func TestMemoryOfBases(t *testing.T) {
	for _, b := range someBases() {
		b = roomy(b)
		keys := []string{"tA", "tB", "tC", "tD", "tE", "k", "new"}
		for _, e := range b.Entries {
			keys = append(keys, e.Key)
		}
		checkFresh(t, "BaseOk", []any{b}, func() []any { return []any{impl.BaseOk(b)} })
		for _, ticks := range []int{-1, 0, 1, 5, lastTime, lastTime + 1} {
			checkFresh(t, "BaseTick", []any{b}, func() []any { return []any{impl.BaseTick(b, ticks)} })
		}
		for _, pattern := range []string{"*", "t?", longKey} {
			checkFresh(t, "BaseKeys", []any{b}, func() []any { return []any{impl.BaseKeys(b, pattern)} })
		}
		for _, key := range keys {
			checkFresh(t, "BaseGet", []any{b}, func() []any { e, ok := impl.BaseGet(b, key); return []any{e, ok} })
			checkFresh(t, "BaseDrop", []any{b}, func() []any { got, ok := impl.BaseDrop(b, key); return []any{got, ok} })
			for kind := 0; kind <= 6; kind++ {
				e := roomyEntry(oneOfKind(key, kind))
				checkFresh(t, "EntryOk", []any{e}, func() []any { return []any{impl.EntryOk(e)} })
				checkFresh(t, "BasePut", []any{b, e}, func() []any { got, ok := impl.BasePut(b, e); return []any{got, ok} })
			}
		}
		for _, e := range b.Entries { // given twice: by the base, and by itself
			next, _ := impl.BasePut(b, e)
			checkApart(t, "BasePut of what is there", next, b)
			checkAlone(t, "BasePut of what is there", next)
		}
	}
}

// checkApart is of a base that was given, and may share memory within itself, and of an answer that must share none with it.
func checkApart(t *testing.T, name string, answer any, given impl.Base) {
	t.Helper()
	for _, a := range pieces("given", reflect.ValueOf(given)) {
		for _, b := range pieces("answer", reflect.ValueOf(answer)) {
			if a.from < b.to && b.from < a.to {
				t.Fatalf("%s: %s and %s share memory", name, a.name, b.name)
			}
		}
	}
}

func TestMemoryOfDo(t *testing.T) {
	for _, b := range someBases() {
		b = roomy(b)
		for _, o := range allOrders() {
			for _, e := range append(b.Entries[:len(b.Entries):len(b.Entries)], impl.Entry{Key: "new"}) {
				args := withRoom(orderAbout(o, e.Key), "spare")
				checkFresh(t, o.word, []any{b, args}, func() []any { got, reply := impl.Do(b, args); return []any{got, reply} })
				checkFresh(t, "Keys of "+o.word, []any{args}, func() []any { return []any{impl.Keys(args), impl.Changes(args)} })
			}
		}
		for _, args := range notOrders() {
			args = withRoom(args, "spare")
			checkFresh(t, "no order", []any{b, args}, func() []any { got, reply := impl.Do(b, args); return []any{got, reply} })
			checkFresh(t, "Keys of no order", []any{args}, func() []any { return []any{impl.Keys(args), impl.Changes(args)} })
		}
	}
}

func TestMemoryOfDoAll(t *testing.T) {
	c := chance(83)
	for _, b := range someBases() {
		b = roomy(b)
		for range 10 {
			orders := [][]string{}
			for range c.IntN(45) {
				orders = append(orders, withRoom(anyLine(c, allOrders()), "spare"))
			}
			for _, e := range b.Entries[:min(3, len(b.Entries))] {
				orders = append(orders, withRoom([]string{"SMEMBERS", e.Key}, "spare"), withRoom([]string{"LRANGE", e.Key, "0", "-1"}, "spare"), withRoom([]string{"HGETALL", e.Key}, "spare"))
			}
			orders = withRoom(orders, nil)
			checkFresh(t, "DoAll", []any{b, orders}, func() []any { got, replies := impl.DoAll(b, orders); return []any{got, replies} })
		}
	}
}

// Two keys, or two entries, that share one list leave two lists that do not.
func TestMemoryOfSharedEntries(t *testing.T) {
	list := withRoom(many(5), "spare")
	b := impl.Base{Entries: []impl.Entry{{Key: "a", Kind: impl.IsList, List: list}, {Key: "b", Kind: impl.IsSet, List: list}, {Key: "c", Kind: impl.IsSet, List: list[:3]}}}
	for _, order := range []string{"DBSIZE", "SMEMBERS b", "SUNION b c", "LRANGE a 0 -1", "RENAME a d", "RENAME a b", "EXPIRE a 5", "SADD c x", "LPOP a", "KEYS *", "NONE"} {
		got, reply := impl.Do(b, line(order))
		checkApart(t, order, []any{got, reply}, b)
		checkAlone(t, order, got, reply)
	}
	tick, keys := impl.BaseTick(b, 3), impl.BaseKeys(b, "*")
	put, _ := impl.BasePut(b, impl.Entry{Key: "e", Kind: impl.IsList, List: list})
	drop, _ := impl.BaseDrop(b, "a")
	all, replies := impl.DoAll(b, [][]string{line("SMEMBERS b"), line("SMEMBERS b"), line("SMEMBERS c")})
	checkAlone(t, "each", tick, keys, put, drop, all, replies)
}

// checkAlone is of values none of whose lists may share memory with another.
func checkAlone(t *testing.T, name string, values ...any) {
	t.Helper()
	checkFresh(t, name, values, func() []any { return nil })
}
