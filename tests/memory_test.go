package tests

import (
	"slices"
	"strconv"
	"testing"

	"loop.example/quincunx/impl"
)

// withRoom is a list with spare room behind its end, and something in it.
func withRoom[T any](list []T, spare T) []T {
	roomy := append(slices.Clone(list), spare, spare, spare)
	return roomy[:len(list)]
}

func whole[T any](list []T) []T {
	return slices.Clone(list[:cap(list)])
}

func scribble[T any](list []T, over T) {
	for i := range list[:cap(list)] {
		list[:cap(list)][i] = over
	}
}

// calls is each function that has a list as an argument and answers one, in all its ways.
func calls() map[string]func(a []string, b []string) []string {
	out := map[string]func(a []string, b []string) []string{
		"SetAdd":  func(a []string, b []string) []string { got, _, _ := impl.SetAdd(a, b); return got },
		"SetDrop": func(a []string, b []string) []string { got, _ := impl.SetDrop(a, b); return got },
		"SetBoth": impl.SetBoth,
		"SetAny":  impl.SetAny,
		"SetLess": impl.SetLess,
		"all":     func(a []string, b []string) []string { return impl.ListRange(a, 0, -1) },
		"some":    func(a []string, b []string) []string { return impl.ListRange(a, 1, -2) },
		"none":    func(a []string, b []string) []string { return impl.ListRange(a, 2, 1) },
		"trim":    func(a []string, b []string) []string { return impl.ListTrim(a, -3, 9) },
		"set":     func(a []string, b []string) []string { got, _ := impl.ListSet(a, -1, "new"); return got },
		"no set":  func(a []string, b []string) []string { got, _ := impl.ListSet(a, 16, "new"); return got },
		"drop":    func(a []string, b []string) []string { got, _ := impl.ListDrop(a, -1, "a"); return got },
		"no drop": func(a []string, b []string) []string { got, _ := impl.ListDrop(a, 0, "not there"); return got },
	}
	for name, front := range map[string]bool{"first": true, "last": false} {
		out["push "+name] = func(a []string, b []string) []string { got, _ := impl.ListPush(a, front, b); return got }
		out["pop "+name] = func(a []string, b []string) []string { got, _, _ := impl.ListPop(a, front); return got }
	}
	return out
}

// Nothing is written into an argument or behind its end, and an answer shares no memory with one.
func TestMemoryOfLists(t *testing.T) {
	lists := [][]string{nil, {}, {"a"}, {"a", "b", "c"}, {"b", "c", "d", "e"}, {"b", "a", "a"}, many(15), many(16), many(17), {"a", tooLong}}
	for name, call := range calls() {
		for _, one := range lists {
			for _, other := range lists {
				checkMemory(t, name, call, withRoom(one, "spare"), withRoom(other, "spare"), "over")
			}
			same := withRoom(one, "spare")
			checkMemory(t, name+", twice the same", call, same, same, "over")
		}
	}
}

// checkMemory writes over what a call was given, and what it answers; over is in none of them.
func checkMemory[T comparable](t *testing.T, name string, call func(a []T, b []T) []T, a []T, b []T, over T) {
	t.Helper()
	wasA, wasB := whole(a), whole(b)
	got := call(a, b)
	if !slices.Equal(whole(a), wasA) || !slices.Equal(whole(b), wasB) {
		t.Fatalf("%s: written into an argument: %v, %v", name, wasA, wasB)
	}
	was := slices.Clone(got)
	again := call(a, b)
	if !slices.Equal(again, was) {
		t.Fatalf("%s: not the same again: %v, %v", name, was, again)
	}
	scribble(again, over)
	if !slices.Equal(whole(a), wasA) || !slices.Equal(whole(b), wasB) || !slices.Equal(got, was) {
		t.Fatalf("%s: an answer shares memory: %v, %v", name, wasA, wasB)
	}
	scribble(a, over)
	scribble(b, over)
	if !slices.Equal(got, was) {
		t.Fatalf("%s: an argument is in an answer: %v, %v", name, wasA, wasB)
	}
}

// scoreCalls is each function that has scores as an argument, in all its ways; those that answer none are told by nothing.
func scoreCalls() map[string]func(list []impl.Score, none []impl.Score) []impl.Score {
	calls := map[string]func(list []impl.Score) []impl.Score{
		"ok":       func(list []impl.Score) []impl.Score { impl.ScoresOk(list); return nil },
		"rank":     func(list []impl.Score) []impl.Score { impl.ScoresRank(list, "b"); return nil },
		"drop":     func(list []impl.Score) []impl.Score { got, _ := impl.ScoresDrop(list, "tA"); return got },
		"no drop":  func(list []impl.Score) []impl.Score { got, _ := impl.ScoresDrop(list, "not there"); return got },
		"all":      func(list []impl.Score) []impl.Score { return impl.ScoresAt(list, 0, -1) },
		"some":     func(list []impl.Score) []impl.Score { return impl.ScoresAt(list, 1, -2) },
		"none":     func(list []impl.Score) []impl.Score { return impl.ScoresAt(list, 2, 1) },
		"by":       func(list []impl.Score) []impl.Score { return impl.ScoresBy(list, -2, 2) },
		"by all":   func(list []impl.Score) []impl.Score { return impl.ScoresBy(list, -most, most) },
		"by first": func(list []impl.Score) []impl.Score { return impl.ScoresBy(list, -most, -3) },
	}
	for _, s := range []impl.Score{{Text: "new", Num: -9}, {Text: "new", Num: 0}, {Text: "new", Num: 90}, {Text: "tA", Num: 9}, {Text: "tA", Num: -3}, {Text: "tB", Num: -9}, {Text: tooLong}, {Text: "tA", Num: most + 1}} {
		calls["put "+s.Text+" "+strconv.Itoa(s.Num)] = func(list []impl.Score) []impl.Score { got, _, _ := impl.ScoresPut(list, s); return got }
	}
	return alone(calls)
}

// alone is calls that take no second list.
func alone[T any](calls map[string]func(list []T) []T) map[string]func(list []T, none []T) []T {
	out := map[string]func(list []T, none []T) []T{}
	for name, call := range calls {
		out[name] = func(list []T, none []T) []T { return call(list) }
	}
	return out
}

func TestMemoryOfScores(t *testing.T) {
	lists := append(wrongScores(), nil, []impl.Score{}, manyScores(1), manyScores(2), manyScores(15), manyScores(16))
	for name, call := range scoreCalls() {
		for _, list := range lists {
			checkMemory(t, name, call, withRoom(list, impl.Score{Text: "spare", Num: 1}), nil, impl.Score{Text: "over", Num: 77})
		}
	}
}

func fieldCalls() map[string]func(list []impl.Pair, none []impl.Pair) []impl.Pair {
	calls := map[string]func(list []impl.Pair) []impl.Pair{
		"ok":      func(list []impl.Pair) []impl.Pair { impl.FieldsOk(list); return nil },
		"get":     func(list []impl.Pair) []impl.Pair { impl.FieldsGet(list, "b"); return nil },
		"drop":    func(list []impl.Pair) []impl.Pair { got, _ := impl.FieldsDrop(list, "tA"); return got },
		"no drop": func(list []impl.Pair) []impl.Pair { got, _ := impl.FieldsDrop(list, "not there"); return got },
	}
	for _, p := range []impl.Pair{{Field: "new"}, {Field: "tA", Text: "new"}, {Field: "tAA"}, {Field: "z"}, {Field: tooLong}, {Field: "tB", Text: tooLong}} {
		calls["put "+p.Field] = func(list []impl.Pair) []impl.Pair { got, _, _ := impl.FieldsPut(list, p); return got }
	}
	return alone(calls)
}

func TestMemoryOfFields(t *testing.T) {
	lists := append(wrongFields(), nil, []impl.Pair{}, manyFields(1), manyFields(2), manyFields(15), manyFields(16))
	for name, call := range fieldCalls() {
		for _, list := range lists {
			checkMemory(t, name, call, withRoom(list, impl.Pair{Field: "spare"}), nil, impl.Pair{Field: "over", Text: "over"})
		}
	}
}

func TestMemoryOfOrders(t *testing.T) {
	args := withRoom([]string{"SET", "k", "text"}, "spare")
	was := whole(args)
	text := impl.OrderPut(args)
	if !slices.Equal(whole(args), was) {
		t.Error("OrderPut writes into its argument")
	}
	got, _ := impl.OrderGet(text)
	again, _ := impl.OrderGet(text)
	scribble(got, "over")
	if !slices.Equal(again, args) {
		t.Errorf("two answers share memory: %q", again)
	}
}

func TestMemoryOfReplies(t *testing.T) {
	texts := withRoom([]string{"a", "b"}, "spare")
	replies := append(make([]impl.Reply, 0, 5), impl.Reply{Kind: impl.ReplyTexts, Texts: texts}, impl.Reply{Kind: impl.ReplyMany}, impl.Reply{Kind: impl.ReplyErr, Text: "spare"})
	was := whole(texts)
	impl.ReplyPut(impl.Reply{Kind: impl.ReplyMany, Many: replies[:2]})
	if !slices.Equal(whole(texts), was) || replies[0].Kind != impl.ReplyTexts || len(replies[0].Texts) != 2 || replies[1].Kind != impl.ReplyMany || replies[2].Text != "spare" {
		t.Error("ReplyPut writes into its argument")
	}
}
