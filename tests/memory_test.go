package tests

import (
	"slices"
	"testing"

	"loop.example/quincunx/impl"
)

// withRoom is a list with spare room behind its end, and something in it.
func withRoom(list []string) []string {
	roomy := append(slices.Clone(list), "spare 1", "spare 2", "spare 3")
	return roomy[:len(list)]
}

func whole(list []string) []string {
	return slices.Clone(list[:cap(list)])
}

func scribble(list []string) {
	for i := range list[:cap(list)] {
		list[:cap(list)][i] = "scribbled"
	}
}

// calls is each function that has a list as an argument and answers one, in all its ways.
func calls() map[string]func(a []string, b []string) []string {
	out := map[string]func(a []string, b []string) []string{
		"SetAdd":  func(a []string, b []string) []string { got, _, _ := impl.SetAdd(a, b); return got },
		"SetDrop": func(a []string, b []string) []string { got, _ := impl.SetDrop(a, b); return got },
		"SetBoth": impl.SetBoth,
		"SetAny":  impl.SetAny,
		"SetLess": impl.SetLess,
		"all":     func(a []string, b []string) []string { return impl.ListRange(a, 0, -1) },
		"some":    func(a []string, b []string) []string { return impl.ListRange(a, 1, -2) },
		"none":    func(a []string, b []string) []string { return impl.ListRange(a, 2, 1) },
		"trim":    func(a []string, b []string) []string { return impl.ListTrim(a, -3, 9) },
		"set":     func(a []string, b []string) []string { got, _ := impl.ListSet(a, -1, "new"); return got },
		"no set":  func(a []string, b []string) []string { got, _ := impl.ListSet(a, 16, "new"); return got },
		"drop":    func(a []string, b []string) []string { got, _ := impl.ListDrop(a, -1, "a"); return got },
		"no drop": func(a []string, b []string) []string { got, _ := impl.ListDrop(a, 0, "not there"); return got },
	}
	for name, front := range map[string]bool{"first": true, "last": false} {
		out["push "+name] = func(a []string, b []string) []string { got, _ := impl.ListPush(a, front, b); return got }
		out["pop "+name] = func(a []string, b []string) []string { got, _, _ := impl.ListPop(a, front); return got }
	}
	return out
}

// Nothing is written into an argument or behind its end, and an answer shares no memory with one.
func TestMemoryOfLists(t *testing.T) {
	lists := [][]string{nil, {}, {"a"}, {"a", "b", "c"}, {"b", "c", "d", "e"}, {"b", "a", "a"}, many(15), many(16), many(17), {"a", tooLong}}
	for name, call := range calls() {
		for _, one := range lists {
			for _, other := range lists {
				checkMemory(t, name, call, withRoom(one), withRoom(other))
			}
			same := withRoom(one)
			checkMemory(t, name+", twice the same", call, same, same)
		}
	}
}

func checkMemory(t *testing.T, name string, call func(a []string, b []string) []string, a []string, b []string) {
	t.Helper()
	wasA, wasB := whole(a), whole(b)
	got := call(a, b)
	if !slices.Equal(whole(a), wasA) || !slices.Equal(whole(b), wasB) {
		t.Fatalf("%s: written into an argument: %q, %q", name, wasA, wasB)
	}
	was := slices.Clone(got)
	again := call(a, b)
	if !slices.Equal(again, was) {
		t.Fatalf("%s: not the same again: %q, %q", name, was, again)
	}
	scribble(again)
	if !slices.Equal(whole(a), wasA) || !slices.Equal(whole(b), wasB) || !slices.Equal(got, was) {
		t.Fatalf("%s: an answer shares memory: %q, %q", name, wasA, wasB)
	}
	scribble(a)
	scribble(b)
	if !slices.Equal(got, was) {
		t.Fatalf("%s: an argument is in an answer: %q, %q", name, wasA, wasB)
	}
}

func TestMemoryOfOrders(t *testing.T) {
	args := withRoom([]string{"SET", "k", "text"})
	was := whole(args)
	text := impl.OrderPut(args)
	if !slices.Equal(whole(args), was) {
		t.Error("OrderPut writes into its argument")
	}
	got, _ := impl.OrderGet(text)
	again, _ := impl.OrderGet(text)
	scribble(got)
	if !slices.Equal(again, args) {
		t.Errorf("two answers share memory: %q", again)
	}
}

func TestMemoryOfReplies(t *testing.T) {
	texts := withRoom([]string{"a", "b"})
	replies := append(make([]impl.Reply, 0, 5), impl.Reply{Kind: impl.ReplyTexts, Texts: texts}, impl.Reply{Kind: impl.ReplyMany}, impl.Reply{Kind: impl.ReplyErr, Text: "spare"})
	was := whole(texts)
	impl.ReplyPut(impl.Reply{Kind: impl.ReplyMany, Many: replies[:2]})
	if !slices.Equal(whole(texts), was) || replies[0].Kind != impl.ReplyTexts || len(replies[0].Texts) != 2 || replies[1].Kind != impl.ReplyMany || replies[2].Text != "spare" {
		t.Error("ReplyPut writes into its argument")
	}
}
