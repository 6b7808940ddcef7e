package tests

import (
	"slices"
	"testing"

	"loop.example/quincunx/impl"
)

// having is the texts of list of which has is so, as a set.
func having(list []string, has func(string) bool) []string {
	var out []string
	for _, text := range list {
		if has(text) {
			out = append(out, text)
		}
	}
	slices.Sort(out)
	return slices.Compact(out)
}

func in(set []string) func(string) bool {
	return func(text string) bool { return slices.Contains(set, text) }
}

func notIn(set []string) func(string) bool {
	return func(text string) bool { return !slices.Contains(set, text) }
}

func TestSetOk(t *testing.T) {
	sets := [][]string{nil, {}, {""}, {"", "\x00"}, {"a", "ab"}, {"a", "b"}, {"B", "a"}, {"\x7f", "\x80", "\xff"}, {"z", "\u00e9"}, {longest[:39], longest}, many(16)}
	for _, set := range sets {
		if !impl.SetOk(set) {
			t.Errorf("%q is a set", set)
		}
	}
	for _, wrong := range wrongSets() {
		if impl.SetOk(wrong) {
			t.Errorf("%q is no set", wrong)
		}
	}
	if set := many(16); impl.SetOk(append(set[:15], "t")) || impl.SetOk(append(set[:15], set[14])) {
		t.Error("the last one counts")
	}
}

func checkAdd(t *testing.T, set []string, texts []string) {
	t.Helper()
	want := having(slices.Concat(set, texts), func(string) bool { return true })
	fine := listIsOk(texts) && len(want) <= 16
	if !fine {
		want = set
	}
	got, n, ok := impl.SetAdd(set, texts)
	if ok != fine || n != len(want)-len(set) || !slices.Equal(got, want) {
		t.Fatalf("%q with %q: %q, %d, %v", set, texts, got, n, ok)
	}
	if !fine {
		return
	}
	if again, n, ok := impl.SetAdd(got, texts); !ok || n != 0 || !slices.Equal(again, got) {
		t.Fatalf("%q with %q again: %q, %d, %v", set, texts, again, n, ok)
	}
}

// P11: what was added is there, and all that was.
func TestP11Add(t *testing.T) {
	c := chance(21)
	for range 10000 {
		checkAdd(t, anySet(c, 16), anyTexts(c, 16))
		checkAdd(t, anySet(c, 6), anyTexts(c, 4))
	}
}

func TestP11AddAtItsLimits(t *testing.T) {
	all := many(18)
	for size := range 17 {
		for from := range 18 {
			for to := from; to <= 18; to++ {
				checkAdd(t, all[:size], all[from:to])
			}
		}
	}
	checkAdd(t, many(16), slices.Repeat([]string{"tA"}, 16))
	checkAdd(t, many(16), slices.Repeat([]string{"tA"}, 17))
	checkAdd(t, many(15), slices.Repeat([]string{"x"}, 16))
	checkAdd(t, many(15), []string{"x", "y"})
	checkAdd(t, nil, []string{longest, "", longest, "\xff\x00"})
	checkAdd(t, many(2), []string{"a", tooLong})
	for _, wrong := range wrongSets() {
		for _, texts := range [][]string{nil, {"a"}, wrong} {
			if got, n, ok := impl.SetAdd(wrong, texts); len(got) != 0 || n != 0 || ok {
				t.Errorf("no set %q: %q, %d, %v", wrong, got, n, ok)
			}
		}
	}
}

func checkSetDrop(t *testing.T, set []string, texts []string) {
	t.Helper()
	want := having(set, notIn(texts))
	got, n := impl.SetDrop(set, texts)
	if n != len(set)-len(want) || !slices.Equal(got, want) {
		t.Fatalf("%q without %q: %q, %d", set, texts, got, n)
	}
}

// P12: what was taken away is not there, all else is.
func TestP12Drop(t *testing.T) {
	c := chance(22)
	for range 10000 {
		checkSetDrop(t, anySet(c, 16), anyTexts(c, 16))
		checkSetDrop(t, anySet(c, 6), anyTexts(c, 3))
	}
}

func TestP12DropAtItsLimits(t *testing.T) {
	checkSetDrop(t, many(16), nil)
	checkSetDrop(t, many(16), many(16))
	checkSetDrop(t, nil, many(16))
	checkSetDrop(t, many(3), []string{"tB", "tB", "tA", "tB"})
	checkSetDrop(t, []string{"", longest}, []string{"", tooLong})
	checkSetDrop(t, many(16), append(slices.Repeat([]string{"x"}, 40), "tP", tooLong))
	for _, wrong := range wrongSets() {
		for _, texts := range [][]string{nil, {"a"}, wrong} {
			if got, n := impl.SetDrop(wrong, texts); len(got) != 0 || n != 0 {
				t.Errorf("no set %q: %q, %d", wrong, got, n)
			}
		}
	}
}

func checkTwoSets(t *testing.T, a []string, b []string) {
	t.Helper()
	both, any, less, other := impl.SetBoth(a, b), impl.SetAny(a, b), impl.SetLess(a, b), impl.SetLess(b, a)
	if !slices.Equal(both, having(a, in(b))) || !slices.Equal(less, having(a, notIn(b))) || !slices.Equal(other, having(b, notIn(a))) {
		t.Fatalf("%q, %q: %q, %q, %q", a, b, both, less, other)
	}
	parts := slices.Concat(both, less, other)
	slices.Sort(parts)
	if !slices.Equal(any, parts) {
		t.Fatalf("%q, %q: %q is not its parts %q", a, b, any, parts)
	}
	if !slices.Equal(any, impl.SetAny(b, a)) || !slices.Equal(both, impl.SetBoth(b, a)) {
		t.Fatalf("%q, %q: not the same the other way round", a, b)
	}
}

// P13: what two sets have in common, and what each has alone, is what one of both has.
func TestP13TwoSets(t *testing.T) {
	c := chance(23)
	for range 10000 {
		checkTwoSets(t, anySet(c, 16), anySet(c, 16))
	}
}

func TestP13TwoSetsAtTheirLimits(t *testing.T) {
	all := many(32)
	checkTwoSets(t, nil, nil)
	checkTwoSets(t, nil, all[:16])
	checkTwoSets(t, all[:16], all[:16])
	checkTwoSets(t, all[:16], all[16:])
	checkTwoSets(t, all[8:24], all[:16])
	if any := impl.SetAny(all[16:], all[:16]); !slices.Equal(any, all) {
		t.Errorf("32 texts: %q", any)
	}
	for _, wrong := range wrongSets() {
		for _, set := range [][]string{nil, {"a"}, wrong} {
			got := [][]string{impl.SetBoth(wrong, set), impl.SetBoth(set, wrong), impl.SetAny(wrong, set), impl.SetAny(set, wrong), impl.SetLess(wrong, set), impl.SetLess(set, wrong)}
			for i, one := range got {
				if len(one) != 0 {
					t.Errorf("no set %q, %d: %q", wrong, i, one)
				}
			}
		}
	}
}
