package tests

import (
	"slices"
	"testing"

	"loop.example/quincunx/impl"
)

func listIsOk(list []string) bool {
	return len(list) <= 16 && !slices.ContainsFunc(list, func(text string) bool { return len(text) > 40 })
}

// pushed is ListPush as the document tells it.
func pushed(list []string, front bool, texts []string) ([]string, bool) {
	if !listIsOk(list) {
		return nil, false
	}
	if !listIsOk(texts) || len(list)+len(texts) > 16 {
		return list, false
	}
	if !front {
		return slices.Concat(list, texts), true
	}
	turned := slices.Clone(texts)
	slices.Reverse(turned)
	return slices.Concat(turned, list), true
}

func checkPush(t *testing.T, list []string, texts []string) {
	t.Helper()
	for _, front := range []bool{false, true} {
		want, fine := pushed(list, front, texts)
		got, ok := impl.ListPush(list, front, texts)
		if ok != fine || !slices.Equal(got, want) {
			t.Fatalf("%q %v %q: %q, %v", list, front, texts, got, ok)
		}
	}
}

func TestListPush(t *testing.T) {
	c := chance(11)
	for range 5000 {
		checkPush(t, anyTexts(c, 16), anyTexts(c, 16))
	}
}

func TestListPushAtItsLimits(t *testing.T) {
	for size := range 18 {
		for more := range 18 {
			checkPush(t, many(size), many(more))
		}
	}
	checkPush(t, []string{longest}, []string{longest, "", "\x00\r\n"})
	checkPush(t, many(2), []string{"a", tooLong})
	checkPush(t, nil, nil)
	for _, wrong := range wrongLists() {
		checkPush(t, wrong, nil)
		checkPush(t, wrong, []string{"a"})
		checkPush(t, wrong, wrong)
		checkPush(t, nil, wrong)
		checkPush(t, []string{"a"}, wrong)
	}
}

func TestListPop(t *testing.T) {
	for _, wrong := range append(wrongLists(), nil, []string{}) {
		for _, front := range []bool{false, true} {
			if got, text, ok := impl.ListPop(wrong, front); len(got) != 0 || text != "" || ok {
				t.Errorf("%q: %q, %q, %v", wrong, got, text, ok)
			}
		}
	}
	for size := 1; size <= 16; size++ {
		list := many(size)
		if got, text, ok := impl.ListPop(list, false); !ok || text != list[size-1] || !slices.Equal(got, list[:size-1]) {
			t.Errorf("last of %d: %q, %q, %v", size, got, text, ok)
		}
		if got, text, ok := impl.ListPop(list, true); !ok || text != list[0] || !slices.Equal(got, list[1:]) {
			t.Errorf("first of %d: %q, %q, %v", size, got, text, ok)
		}
	}
	if got, text, ok := impl.ListPop([]string{""}, true); len(got) != 0 || text != "" || !ok {
		t.Errorf("the empty text: %q, %q, %v", got, text, ok)
	}
}

// P6: what is put at an end is taken from it, the last first.
func TestP6PushThenPop(t *testing.T) {
	c := chance(12)
	for range 5000 {
		list, front := anyTexts(c, 16), c.IntN(2) == 0
		texts := anyTexts(c, 16-len(list))
		left, ok := impl.ListPush(list, front, texts)
		if !ok || len(left) != len(list)+len(texts) {
			t.Fatalf("%q, %q: %q, %v", list, texts, left, ok)
		}
		for i := len(texts) - 1; i >= 0; i-- {
			var text string
			if left, text, ok = impl.ListPop(left, front); !ok || text != texts[i] {
				t.Fatalf("%q, %q: popped %q, %v", list, texts, text, ok)
			}
		}
		if !slices.Equal(left, list) {
			t.Fatalf("%q, %q: left %q", list, texts, left)
		}
	}
}

// P7: a text that is taken from an end, put there again, leaves the list.
func TestP7PopThenPush(t *testing.T) {
	c := chance(13)
	for range 5000 {
		list, front := append(anyTexts(c, 15), anyText(c)), c.IntN(2) == 0
		left, text, ok := impl.ListPop(list, front)
		if !ok || len(left) != len(list)-1 {
			t.Fatalf("%q: %q, %q, %v", list, left, text, ok)
		}
		if got, ok := impl.ListPush(left, front, []string{text}); !ok || !slices.Equal(got, list) {
			t.Fatalf("%q: put again %q, %v", list, got, ok)
		}
	}
}

// between is ListRange as the document tells it, text by text.
func between(list []string, from int, to int) []string {
	var out []string
	if !listIsOk(list) || from < -1000000000 || from > 1000000000 || to < -1000000000 || to > 1000000000 {
		return nil
	}
	for i, text := range list {
		low := from <= i && from >= 0 || from < 0 && from <= i-len(list)
		high := to >= i || to < 0 && to >= i-len(list)
		if low && high {
			out = append(out, text)
		}
	}
	return out
}

func checkRange(t *testing.T, list []string, from int, to int) {
	t.Helper()
	want := between(list, from, to)
	if got := impl.ListRange(list, from, to); !slices.Equal(got, want) {
		t.Fatalf("range %q %d %d: %q", list, from, to, got)
	}
	if got := impl.ListTrim(list, from, to); !slices.Equal(got, want) {
		t.Fatalf("trim %q %d %d: %q", list, from, to, got)
	}
}

// P8: texts from one place to another one are those between.
func TestP8AllPlaces(t *testing.T) {
	places := append([]int{1000000000, -1000000000, 999999999, -999999999}, wrongPlaces...)
	for place := -19; place <= 19; place++ {
		places = append(places, place)
	}
	for _, size := range []int{0, 1, 2, 3, 5, 15, 16, 17} {
		for _, from := range places {
			for _, to := range places {
				checkRange(t, many(size), from, to)
			}
		}
	}
}

func TestP8Range(t *testing.T) {
	c := chance(14)
	for range 5000 {
		list := anyTexts(c, 16)
		if got := impl.ListRange(list, 0, -1); !slices.Equal(got, list) {
			t.Fatalf("all of %q: %q", list, got)
		}
		checkRange(t, list, c.IntN(41)-20, c.IntN(41)-20)
	}
	for _, wrong := range wrongLists() {
		checkRange(t, wrong, 0, -1)
	}
}

// P9: a text that is put in a place is there, and all others stay.
func TestP9Set(t *testing.T) {
	c := chance(15)
	for range 5000 {
		list, text := append(anyTexts(c, 15), anyText(c)), anyText(c)
		at := c.IntN(2*len(list)) - len(list)
		want := slices.Clone(list)
		want[(at+len(list))%len(list)] = text
		if got, ok := impl.ListSet(list, at, text); !ok || !slices.Equal(got, want) {
			t.Fatalf("%q %d %q: %q, %v", list, at, text, got, ok)
		}
	}
}

func TestP9SetAtItsLimits(t *testing.T) {
	for size := range 17 {
		list := many(size)
		for _, at := range append([]int{size, -size - 1, size + 16, -size - 16, 1000000000, -1000000000}, wrongPlaces...) {
			if got, ok := impl.ListSet(list, at, "x"); ok || !slices.Equal(got, list) {
				t.Errorf("no place %d of %d: %q, %v", at, size, got, ok)
			}
		}
	}
	list := many(3)
	if got, ok := impl.ListSet(list, 1, longest); !ok || !slices.Equal(got, []string{list[0], longest, list[2]}) {
		t.Errorf("longest: %q, %v", got, ok)
	}
	if got, ok := impl.ListSet(list, 1, tooLong); ok || !slices.Equal(got, list) {
		t.Errorf("too long: %q, %v", got, ok)
	}
	for _, wrong := range wrongLists() {
		if got, ok := impl.ListSet(wrong, 0, "x"); ok || len(got) != 0 {
			t.Errorf("wrong list: %q, %v", got, ok)
		}
	}
}

// dropped is ListDrop as the document tells it, by which places go.
func dropped(list []string, count int, text string) ([]string, int) {
	var at []int
	for i := range list {
		if list[i] == text {
			at = append(at, i)
		}
	}
	if count > 0 && count < len(at) {
		at = at[:count]
	}
	if count < 0 && -count < len(at) {
		at = at[len(at)+count:]
	}
	var out []string
	for i := range list {
		if !slices.Contains(at, i) {
			out = append(out, list[i])
		}
	}
	return out, len(at)
}

func checkDrop(t *testing.T, list []string, count int, text string) {
	t.Helper()
	want, many := dropped(list, count, text)
	got, n := impl.ListDrop(list, count, text)
	if n != many || !slices.Equal(got, want) {
		t.Fatalf("%q %d %q: %q, %d", list, count, text, got, n)
	}
}

// P10: of what is one text just so many are taken away, from one end, and nothing else.
func TestP10Drop(t *testing.T) {
	c := chance(16)
	for range 5000 {
		list := make([]string, c.IntN(17))
		for i := range list {
			list[i] = []string{"a", "b", "", anyText(c)}[c.IntN(4)]
		}
		for _, text := range []string{"a", "b", "", "none", tooLong} {
			checkDrop(t, list, c.IntN(41)-20, text)
			checkDrop(t, list, c.IntN(5)-2, text)
			checkDrop(t, list, 0, text)
		}
	}
}

func TestP10DropAtItsLimits(t *testing.T) {
	full := slices.Repeat([]string{"a"}, 16)
	for _, count := range []int{0, 1, -1, 15, -15, 16, -16, 17, -17, 1000000000, -1000000000} {
		checkDrop(t, full, count, "a")
		checkDrop(t, full, count, "b")
		checkDrop(t, nil, count, "")
		for _, wrong := range wrongLists() {
			if got, n := impl.ListDrop(wrong, count, wrong[0]); len(got) != 0 || n != 0 {
				t.Errorf("wrong list, %d: %q, %d", count, got, n)
			}
		}
	}
	for _, count := range wrongPlaces {
		if got, n := impl.ListDrop(full, count, "a"); len(got) != 0 || n != 0 {
			t.Errorf("%d: %q, %d", count, got, n)
		}
	}
}
