package tests

import (
	"math"
	"math/rand/v2"
	"slices"
	"testing"

	"loop.example/quincunx/impl"
)

// P21: an entry has just what its kind has, and not nothing.
func TestP21EntryOk(t *testing.T) {
	for _, e := range rightEntries() {
		if !impl.EntryOk(e) {
			t.Errorf("%+v is ok", e)
		}
	}
	for _, e := range wrongEntries() {
		if impl.EntryOk(e) {
			t.Errorf("%+v is not ok", e)
		}
	}
	for _, key := range []string{"k", "", longKey} {
		for _, e := range emptyEntries(key) {
			if impl.EntryOk(e) {
				t.Errorf("%+v is empty, and not ok", e)
			}
		}
	}
	if impl.EntryOk(impl.Entry{}) {
		t.Error("nothing is not ok")
	}
}

// P21: what is ok is not of another kind, but that a list may be a set, and a set is a list.
func TestP21EntryOfOneKind(t *testing.T) {
	c := chance(51)
	for range 5000 {
		e := anyEntry(c, anyKey(c), anyNow(c))
		if !impl.EntryOk(e) {
			t.Fatalf("%+v is ok", e)
		}
		for kind := -1; kind <= 7; kind++ {
			other := e
			other.Kind = kind
			want := kind == e.Kind || kind == impl.IsList && e.Kind == impl.IsSet || kind == impl.IsSet && e.Kind == impl.IsList && slices.Equal(e.List, having(e.List, func(string) bool { return true }))
			if impl.EntryOk(other) != want {
				t.Fatalf("%+v: %v", other, !want)
			}
		}
	}
}

func TestBaseOk(t *testing.T) {
	for _, b := range rightBases() {
		if !impl.BaseOk(b) {
			t.Errorf("%+v is ok", b)
		}
	}
	for _, b := range wrongBases() {
		if impl.BaseOk(b) {
			t.Errorf("%+v is not ok", b)
		}
	}
	c := chance(52)
	for range 2000 {
		b := anyBase(c, 12)
		if !impl.BaseOk(b) {
			t.Fatalf("%+v is ok", b)
		}
		if len(b.Entries) < 2 {
			continue
		}
		at := c.IntN(len(b.Entries) - 1)
		b.Entries[at], b.Entries[at+1] = b.Entries[at+1], b.Entries[at]
		if impl.BaseOk(b) {
			t.Fatalf("%+v is not in order", b)
		}
	}
}

// checkGets asks for each key of a base, and for one that it may not have.
func checkGets(t *testing.T, b impl.Base, key string) {
	t.Helper()
	for _, e := range b.Entries {
		if got, there := impl.BaseGet(b, e.Key); !there || !sameEntry(got, e) {
			t.Fatalf("%q of %+v: %+v, %v", e.Key, b, got, there)
		}
	}
	want, is := entryAt(b, key)
	if got, there := impl.BaseGet(b, key); there != is || !sameEntry(got, want) {
		t.Fatalf("%q of %+v: %+v, %v", key, b, got, there)
	}
}

// P22, P23: what stands under a key is got by it, and by no other.
func TestP22BaseGet(t *testing.T) {
	c := chance(53)
	for range 3000 {
		checkGets(t, anyBase(c, 12), anyKey(c))
	}
	for _, b := range rightBases() {
		for _, key := range []string{"", "k", "kk", longestKey, longKey, tooLong} {
			checkGets(t, b, key)
		}
	}
	for _, b := range wrongBases() {
		for _, e := range append(slices.Clone(b.Entries), impl.Entry{Key: "no such"}) {
			if got, there := impl.BaseGet(b, e.Key); there || !sameEntry(got, impl.Entry{}) {
				t.Errorf("not ok, %+v: %+v, %v", b, got, there)
			}
		}
	}
}

// checkPut is of a base that is ok, and of what its base would be; if that is not ok, what is put is refused.
func checkPut(t *testing.T, b impl.Base, e impl.Entry, want impl.Base, fine bool) {
	t.Helper()
	if !fine {
		want = b
	}
	got, ok := impl.BasePut(b, e)
	if ok != fine || !sameBase(got, want) || !impl.BaseOk(got) {
		t.Fatalf("%+v with %+v: %+v, %v", b, e, got, ok)
	}
	if !fine {
		return
	}
	stands, there := entryAt(want, e.Key)
	if under, is := impl.BaseGet(got, e.Key); is != there || !sameEntry(under, stands) {
		t.Fatalf("%+v with %+v: there is %+v, %v", b, e, under, is)
	}
	before, _ := impl.BaseDrop(b, e.Key)
	behind, _ := impl.BaseDrop(got, e.Key)
	if !sameBase(before, behind) {
		t.Fatalf("%+v with %+v, then without: %+v, %+v", b, e, before, behind)
	}
}

// keysAnd is the keys of a base, and some that it may have.
func keysAnd(c *rand.Rand, b impl.Base) []string {
	keys := []string{anyKey(c), anyKey(c), "new"}
	for _, e := range b.Entries {
		keys = append(keys, e.Key)
	}
	return keys
}

// P22: what was put under a key stands there, and all else as it was.
func TestP22BasePut(t *testing.T) {
	c := chance(54)
	for range 1500 {
		b := anyBase(c, 14)
		if len(b.Entries) > 12 {
			continue
		}
		for _, key := range keysAnd(c, b) {
			e := anyEntry(c, key, b.Now)
			want := withEntry(b, e)
			checkPut(t, b, e, want, len(want.Entries) <= 12)
		}
	}
}

func TestP22BasePutOfNothing(t *testing.T) {
	c := chance(55)
	for range 60 {
		b := anyBase(c, 12)
		for _, key := range append(keysAnd(c, b), "", longKey) {
			for _, e := range emptyEntries(key) {
				checkPut(t, b, e, withoutKeys(b, key), true)
			}
		}
	}
}

// The empty text is not nothing.
func TestP22BasePutOfTheEmptyText(t *testing.T) {
	for _, b := range []impl.Base{{}, manyEntries(11, 3), manyEntries(12, 3)} {
		for _, key := range []string{"tA", "tB", "k", "tL"} {
			e := impl.Entry{Key: key, Kind: impl.IsText}
			want := withEntry(b, e)
			checkPut(t, b, e, want, len(want.Entries) <= 12)
		}
	}
}

func TestP22BasePutAtItsLimits(t *testing.T) {
	for _, now := range []int{0, 1, 7, lastTime} {
		for _, size := range []int{0, 1, 11, 12} {
			b := manyEntries(size, now)
			for _, e := range rightEntries() {
				want := withEntry(b, e)
				checkPut(t, b, e, want, len(want.Entries) <= 12 && (e.Until == 0 || e.Until > now))
			}
			for _, until := range []int{0, 1, now - 1, now, now + 1, 2 * lastTime, 2*lastTime + 1, -1} {
				e := oneOfKind("tA", impl.IsList)
				e.Until = until
				checkPut(t, b, e, withEntry(b, e), until == 0 || until > now && until <= 2*lastTime)
			}
			for _, e := range wrongEntries() {
				checkPut(t, b, e, b, false)
				if e.Key == "k" { // wrong by more than its key
					e.Key = "tA"
					checkPut(t, b, e, b, false)
				}
			}
		}
	}
	for _, b := range wrongBases() {
		for _, e := range append(emptyEntries("k"), oneOfKind("k", 1), impl.Entry{}) {
			if got, ok := impl.BasePut(b, e); ok || !isNothing(got) {
				t.Errorf("not ok, %+v with %+v: %+v, %v", b, e, got, ok)
			}
		}
	}
}

// P23: what was taken away is not there, and all else is.
func TestP23BaseDrop(t *testing.T) {
	c := chance(56)
	for range 1500 {
		b := anyBase(c, 12)
		for _, key := range append(keysAnd(c, b), "", longKey) {
			e, is := entryAt(b, key)
			got, was := impl.BaseDrop(b, key)
			if was != is || !sameBase(got, withoutKeys(b, key)) {
				t.Fatalf("%+v without %q: %+v, %v", b, key, got, was)
			}
			if _, there := impl.BaseGet(got, key); there {
				t.Fatalf("%+v without %q: it is there", b, key)
			}
			if !was {
				continue
			}
			if back, ok := impl.BasePut(got, e); !ok || !sameBase(back, b) {
				t.Fatalf("%+v without %q, and back: %+v, %v", b, key, back, ok)
			}
		}
	}
	for _, b := range wrongBases() {
		for _, key := range []string{"k", "a", "tA", ""} {
			if got, was := impl.BaseDrop(b, key); was || !isNothing(got) {
				t.Errorf("not ok, %+v without %q: %+v, %v", b, key, got, was)
			}
		}
	}
}

// notOver is what a base has of entries that are not over at a time.
func notOver(b impl.Base, now int) impl.Base {
	out := impl.Base{Now: now}
	for _, e := range b.Entries {
		if e.Until == 0 || e.Until > now {
			out.Entries = append(out.Entries, e)
		}
	}
	return out
}

// P24: what is over is gone, and nothing else.
func TestP24BaseTick(t *testing.T) {
	c := chance(57)
	for range 3000 {
		b := anyBase(c, 12)
		b.Now = c.IntN(b.Now + 1)
		ticks := []int{0, 1, 2, 3, 5, 6, c.IntN(lastTime + 1), lastTime - b.Now}[c.IntN(8)]
		if b.Now+ticks > lastTime {
			continue
		}
		got := impl.BaseTick(b, ticks)
		if !sameBase(got, notOver(b, b.Now+ticks)) || !impl.BaseOk(got) {
			t.Fatalf("%+v, %d ticks: %+v", b, ticks, got)
		}
		first := c.IntN(ticks + 1)
		if parts := impl.BaseTick(impl.BaseTick(b, first), ticks-first); !sameBase(parts, got) {
			t.Fatalf("%+v, %d of %d ticks, then all: %+v", b, first, ticks, parts)
		}
	}
}

func TestP24BaseTickOneByOne(t *testing.T) {
	for _, now := range []int{0, 7, lastTime - 12} {
		b := manyEntries(12, now)
		for ticks := range 13 {
			got := impl.BaseTick(b, ticks)
			if got.Now != now+ticks || len(got.Entries) != max(12-ticks, 1) || got.Entries[0].Key != "tA" {
				t.Errorf("%d ticks from %d on: %+v", ticks, now, got)
			}
		}
	}
}

func TestP24BaseTickAtItsLimits(t *testing.T) {
	for _, now := range []int{0, 7, lastTime - 1, lastTime} {
		b := manyEntries(12, now)
		if got := impl.BaseTick(b, lastTime-now); !sameBase(got, notOver(b, lastTime)) {
			t.Errorf("to the last time: %+v", got)
		}
		for _, ticks := range []int{-1, -now, math.MinInt, lastTime - now + 1, 2 * lastTime, math.MaxInt, math.MaxInt - now} {
			if got := impl.BaseTick(b, ticks); !sameBase(got, b) {
				t.Errorf("%d ticks from %d on: %+v", ticks, now, got)
			}
		}
	}
	end := impl.Base{Entries: []impl.Entry{{Key: "k", Kind: impl.IsText, Until: 2 * lastTime}}}
	if got := impl.BaseTick(end, lastTime); got.Now != lastTime || len(got.Entries) != 1 {
		t.Errorf("what is over behind all times is gone: %+v", got)
	}
	for _, b := range wrongBases() {
		for _, ticks := range []int{0, 1, -1, 8} {
			if got := impl.BaseTick(b, ticks); !isNothing(got) {
				t.Errorf("not ok, %+v, %d ticks: %+v", b, ticks, got)
			}
		}
	}
}

func checkKeys(t *testing.T, b impl.Base, pattern string) {
	t.Helper()
	var want []string
	for _, e := range b.Entries {
		if len(pattern) <= 12 && matchByTrying(pattern, e.Key) {
			want = append(want, e.Key)
		}
	}
	if got := impl.BaseKeys(b, pattern); !slices.Equal(got, want) {
		t.Fatalf("%q of %+v: %q", pattern, b, got)
	}
}

// P25: keys as a pattern are just those that match.
func TestP25BaseKeys(t *testing.T) {
	c := chance(58)
	for range 1000 {
		b := anyBase(c, 12)
		for _, pattern := range append(keysAnd(c, b), "", "*", "?", "??", "a*", "*b", "*\x00*", "k?k*", "**", "?*") {
			checkKeys(t, b, pattern)
		}
	}
}

func TestP25BaseKeysAtItsLimits(t *testing.T) {
	b := withEntry(withEntry(manyEntries(10, 3), oneOfKind(longestKey, 2)), oneOfKind(longestKey[:11], 3))
	for _, pattern := range []string{longestKey, longKey, "k*kkkkkkkkkk", "k*kkkkkkkkkkk", "???????????", "????????????", "?????????????", "************", "*************", "t?", tooLong, ""} {
		checkKeys(t, b, pattern)
	}
	if got := impl.BaseKeys(b, "************"); len(got) != 12 {
		t.Errorf("twelve stars: %q", got)
	}
	if got := impl.BaseKeys(b, "*************"); len(got) != 0 {
		t.Errorf("thirteen stars: %q", got)
	}
	for _, b := range wrongBases() {
		if got := impl.BaseKeys(b, "*"); len(got) != 0 {
			t.Errorf("not ok, %+v: %q", b, got)
		}
	}
}
