package tests

import (
	"math/rand/v2"
	"slices"
	"strings"
	"testing"

	"loop.example/quincunx/impl"
)

func byField(list []impl.Pair) []impl.Pair {
	out := slices.Clone(list)
	slices.SortFunc(out, func(a impl.Pair, b impl.Pair) int { return strings.Compare(a.Field, b.Field) })
	return out
}

func fieldsOf(c *rand.Rand, names []string) []impl.Pair {
	var out []impl.Pair
	for _, name := range names {
		out = append(out, impl.Pair{Field: name, Text: anyText(c)})
	}
	return byField(out)
}

func anyFields(c *rand.Rand, most int) []impl.Pair {
	return fieldsOf(c, anySet(c, most))
}

// manyFields is so many; their texts go down.
func manyFields(n int) []impl.Pair {
	var out []impl.Pair
	for i, name := range many(n) {
		out = append(out, impl.Pair{Field: name, Text: longest[:40-i%41]})
	}
	return out
}

// wrongFields are fields that are not ok.
func wrongFields() [][]impl.Pair {
	return [][]impl.Pair{
		manyFields(17),
		manyFields(40),
		{{Field: tooLong}},
		{{Field: "a", Text: tooLong}},
		{{Field: "a"}, {Field: "b", Text: tooLong}, {Field: "c"}},
		append(manyFields(15), impl.Pair{Field: "u" + longest}),
		{{Field: "b"}, {Field: "a"}},
		{{Field: "b", Text: "1"}, {Field: "a", Text: "2"}},
		{{Field: "a"}, {Field: "a"}},
		{{Field: "a", Text: "1"}, {Field: "a", Text: "2"}},
		{{Field: "a"}, {Field: "b"}, {Field: "a"}},
		{{Field: "a"}, {Field: "c"}, {Field: "b"}},
		{{Field: ""}, {Field: ""}},
		{{Field: "a"}, {Field: ""}},
		{{Field: "ab"}, {Field: "a"}},
		{{Field: "\xff"}, {Field: "\x7f"}},
		append(manyFields(15), impl.Pair{Field: "tA"}),
	}
}

func TestFieldsOk(t *testing.T) {
	right := [][]impl.Pair{
		nil,
		{},
		{{}},
		{{Field: ""}, {Field: "\x00"}},
		{{Field: "a", Text: "2"}, {Field: "b", Text: "1"}},
		{{Field: "a", Text: "1"}, {Field: "b", Text: "1"}},
		{{Field: "a"}, {Field: "ab"}},
		{{Field: "B"}, {Field: "a"}},
		{{Field: "z"}, {Field: "\u00e9"}, {Field: "\xff"}},
		{{Field: longest[:39], Text: longest}, {Field: longest, Text: longest}},
		manyFields(15),
		manyFields(16),
	}
	for _, list := range right {
		if !impl.FieldsOk(list) {
			t.Errorf("%q is ok", list)
		}
	}
	for _, wrong := range wrongFields() {
		if impl.FieldsOk(wrong) {
			t.Errorf("%q is not ok", wrong)
		}
	}
}

func TestFieldsOkAreASet(t *testing.T) {
	c := chance(41)
	for range 20000 {
		var list []impl.Pair
		names := anyTexts(c, 3)
		for _, name := range names {
			list = append(list, impl.Pair{Field: name, Text: anyText(c)})
		}
		if want := slices.Equal(names, having(names, func(string) bool { return true })); impl.FieldsOk(list) != want {
			t.Fatalf("%q: %v", list, !want)
		}
	}
}

// notOf is fields without those of a name.
func notOf(list []impl.Pair, name string) []impl.Pair {
	return slices.DeleteFunc(slices.Clone(list), func(p impl.Pair) bool { return p.Field == name })
}

// checkFieldsPut is of fields that are ok.
func checkFieldsPut(t *testing.T, list []impl.Pair, p impl.Pair) []impl.Pair {
	t.Helper()
	rest := notOf(list, p.Field)
	want, isNew := byField(append(slices.Clone(rest), p)), len(rest) == len(list)
	fine := len(p.Field) <= 40 && len(p.Text) <= 40 && len(want) <= 16
	if !fine {
		want, isNew = list, false
	}
	got, fresh, ok := impl.FieldsPut(list, p)
	if !slices.Equal(got, want) || fresh != isNew || ok != fine {
		t.Fatalf("%q with %q: %q, %v, %v", list, p, got, fresh, ok)
	}
	if !fine {
		return got
	}
	if text, there := impl.FieldsGet(got, p.Field); text != p.Text || !there {
		t.Fatalf("%q with %q: it is %q, %v", list, p, text, there)
	}
	before, was := impl.FieldsDrop(list, p.Field)
	behind, is := impl.FieldsDrop(got, p.Field)
	if !slices.Equal(before, behind) || was == fresh || !is {
		t.Fatalf("%q with %q, then without: %q, %q", list, p, before, behind)
	}
	return got
}

// P19: a field that was put has its text, and no other one changes.
func TestP19FieldsPut(t *testing.T) {
	c := chance(42)
	for range 10000 {
		list := anyFields(c, 16)
		checkFieldsPut(t, list, impl.Pair{Field: anyText(c), Text: anyText(c)})
		for _, p := range list {
			checkFieldsPut(t, list, impl.Pair{Field: p.Field, Text: anyText(c)})
			if text, there := impl.FieldsGet(list, p.Field); text != p.Text || !there {
				t.Fatalf("%q of %q: %q, %v", p.Field, list, text, there)
			}
		}
	}
}

func TestP19FieldsPutOneByOne(t *testing.T) {
	c := chance(43)
	for range 100 {
		var list []impl.Pair
		for range 300 {
			list = checkFieldsPut(t, list, impl.Pair{Field: many(20)[c.IntN(20)], Text: anyText(c)})
		}
		if len(list) != 16 {
			t.Fatalf("%d fields", len(list))
		}
	}
}

func TestP19FieldsPutAtItsLimits(t *testing.T) {
	for size := range 17 {
		pairs := []impl.Pair{{}, {Field: longest, Text: longest}, {Field: "x"}, {Text: "\r\n\x00\xff"}, {Field: "\x00", Text: "1"}}
		wrong := []impl.Pair{{Field: tooLong}, {Field: "x", Text: tooLong}, {Field: "tA", Text: tooLong}, {Field: tooLong, Text: tooLong}}
		for _, p := range slices.Concat(pairs, wrong, manyFields(17)) {
			checkFieldsPut(t, manyFields(size), p)
		}
	}
	for _, wrong := range wrongFields() {
		for _, p := range append(slices.Clone(wrong), impl.Pair{}, impl.Pair{Field: "a", Text: "7"}) {
			if got, fresh, ok := impl.FieldsPut(wrong, p); len(got) != 0 || fresh || ok {
				t.Errorf("not ok, %q with %q: %q, %v, %v", wrong, p, got, fresh, ok)
			}
		}
	}
}

func checkFieldsDrop(t *testing.T, list []impl.Pair, name string) {
	t.Helper()
	want := notOf(list, name)
	text, there := impl.FieldsGet(list, name)
	got, was := impl.FieldsDrop(list, name)
	if !slices.Equal(got, want) || was != (len(want) < len(list)) || there != was {
		t.Fatalf("%q without %q: %q, %v", list, name, got, was)
	}
	if text, there := impl.FieldsGet(got, name); text != "" || there {
		t.Fatalf("%q without %q: it is %q, %v", list, name, text, there)
	}
	if !was {
		return
	}
	if back, fresh, ok := impl.FieldsPut(got, impl.Pair{Field: name, Text: text}); !slices.Equal(back, list) || !fresh || !ok {
		t.Fatalf("%q without %q, and back: %q, %v, %v", list, name, back, fresh, ok)
	}
}

// P20: a field that was taken away has no text, all others do.
func TestP20FieldsDrop(t *testing.T) {
	c := chance(44)
	for range 5000 {
		list := anyFields(c, 16)
		checkFieldsDrop(t, list, anyText(c))
		for _, p := range list {
			checkFieldsDrop(t, list, p.Field)
		}
	}
}

func TestP20FieldsDropAtItsLimits(t *testing.T) {
	for _, name := range []string{"", "a", "t", "tA", "tP", "tQ", longest, tooLong} {
		checkFieldsDrop(t, nil, name)
		checkFieldsDrop(t, []impl.Pair{{}}, name)
		checkFieldsDrop(t, []impl.Pair{{Field: longest, Text: longest}}, name)
		checkFieldsDrop(t, manyFields(16), name)
	}
	for _, wrong := range wrongFields() {
		for _, p := range append(slices.Clone(wrong), impl.Pair{Field: "no such"}) {
			if got, was := impl.FieldsDrop(wrong, p.Field); len(got) != 0 || was {
				t.Errorf("not ok, %q without %q: %q, %v", wrong, p.Field, got, was)
			}
			if text, there := impl.FieldsGet(wrong, p.Field); text != "" || there {
				t.Errorf("not ok, %q of %q: %q, %v", p.Field, wrong, text, there)
			}
		}
	}
}
