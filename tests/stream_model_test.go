package tests

import (
	"slices"

	"loop.example/quincunx/impl"
)

// The functions of this file say what the document says of streams, with nothing of the program but its types.

func idMayBe(i impl.Id) bool {
	return i.Time >= 0 && i.Time <= lastTime && i.Num >= 0 && i.Num <= most
}

func before(a impl.Id, b impl.Id) bool {
	return a.Time < b.Time || a.Time == b.Time && a.Num < b.Num
}

// idsAreOk is of ids that must be ascending, each once, and none above last.
func idsAreOk(ids []impl.Id, last impl.Id) bool {
	for i, one := range ids {
		if !idMayBe(one) || before(last, one) {
			return false
		}
		for _, ahead := range ids[:i] {
			if !before(ahead, one) {
				return false
			}
		}
	}
	return true
}

func idsOfItems(items []impl.Item) []impl.Id {
	var ids []impl.Id
	for _, i := range items {
		ids = append(ids, i.Id)
	}
	return ids
}

func idsOfWaits(waits []impl.Wait) []impl.Id {
	var ids []impl.Id
	for _, w := range waits {
		ids = append(ids, w.Id)
	}
	return ids
}

func modelGroupOk(g impl.Group) bool {
	if !isKey(g.Name) || len(g.Waits) > 16 || !idsAreOk(idsOfWaits(g.Waits), g.Last) {
		return false
	}
	return !slices.ContainsFunc(g.Waits, func(w impl.Wait) bool {
		return !isKey(w.Who) || w.At < 0 || w.At > lastTime || w.Times < 1 || w.Times > most
	})
}

// modelFieldsOk is of fields that an item may have.
func modelFieldsOk(fields []impl.Pair) bool {
	for i, p := range fields {
		if len(p.Field) > 40 || len(p.Text) > 40 || i > 0 && fields[i-1].Field >= p.Field {
			return false
		}
	}
	return len(fields) >= 1 && len(fields) <= 16
}

func modelStreamOk(s impl.Stream) bool {
	if !idMayBe(s.Last) || len(s.Items) > 16 || len(s.Groups) > 3 || !idsAreOk(idsOfItems(s.Items), s.Last) {
		return false
	}
	if slices.ContainsFunc(s.Items, func(i impl.Item) bool { return !modelFieldsOk(i.Fields) }) {
		return false
	}
	for i, g := range s.Groups {
		if !modelGroupOk(g) || !idMayBe(g.Last) || before(s.Last, g.Last) || i > 0 && s.Groups[i-1].Name >= g.Name {
			return false
		}
	}
	return true
}

func modelAdd(s impl.Stream, now int, fields []impl.Pair) (impl.Stream, impl.Id, bool) {
	if !modelStreamOk(s) {
		return impl.Stream{}, impl.Id{}, false
	}
	next := id(now, 0)
	if now <= s.Last.Time {
		next = id(s.Last.Time, s.Last.Num+1)
	}
	if now < 0 || now > lastTime || !modelFieldsOk(fields) || len(s.Items) == 16 || !idMayBe(next) {
		return s, impl.Id{}, false
	}
	out := copyOfStream(s)
	out.Items = append(out.Items, impl.Item{Id: next, Fields: fields})
	out.Last = next
	return out, next, true
}

func modelRange(s impl.Stream, from impl.Id, to impl.Id, count int) []impl.Item {
	if !modelStreamOk(s) {
		return nil
	}
	items := slices.DeleteFunc(slices.Clone(s.Items), func(i impl.Item) bool { return before(i.Id, from) || before(to, i.Id) })
	return items[:min(len(items), max(0, count))]
}

func modelTrim(s impl.Stream, most int) (impl.Stream, int) {
	if !modelStreamOk(s) {
		return impl.Stream{}, 0
	}
	out, gone := copyOfStream(s), 0
	for most >= 0 && len(out.Items) > most {
		out.Items = out.Items[1:]
		gone++
	}
	return out, gone
}

func modelDrop(s impl.Stream, one impl.Id) (impl.Stream, bool) {
	if !modelStreamOk(s) {
		return impl.Stream{}, false
	}
	out := copyOfStream(s)
	out.Items = slices.DeleteFunc(out.Items, func(i impl.Item) bool { return i.Id == one })
	return out, len(out.Items) < len(s.Items)
}

func modelNew(s impl.Stream, name string, from impl.Id) (impl.Stream, bool) {
	if !modelStreamOk(s) {
		return impl.Stream{}, false
	}
	out := withGroupOf(s, name, from)
	if !modelStreamOk(out) {
		return s, false
	}
	return out, true
}

// modelGroup is the place of a group; -1, if there is none, or if it can't be given anything.
func modelGroup(s impl.Stream, name string, who string, now int) int {
	if !isKey(who) || now < 0 || now > lastTime {
		return -1
	}
	return slices.IndexFunc(s.Groups, func(g impl.Group) bool { return g.Name == name })
}

func modelRead(s impl.Stream, name string, who string, now int, count int) (impl.Stream, []impl.Item) {
	if !modelStreamOk(s) {
		return impl.Stream{}, nil
	}
	out, at := copyOfStream(s), modelGroup(s, name, who, now)
	if at < 0 {
		return out, nil
	}
	g := &out.Groups[at]
	var told []impl.Item
	for _, i := range s.Items {
		if before(g.Last, i.Id) && len(told) < count && len(g.Waits) < 16 {
			g.Last = i.Id
			g.Waits = append(g.Waits, impl.Wait{Id: i.Id, Who: who, At: now, Times: 1})
			told = append(told, i)
		}
	}
	return out, told
}

func modelDone(s impl.Stream, name string, ids []impl.Id) (impl.Stream, int) {
	if !modelStreamOk(s) {
		return impl.Stream{}, 0
	}
	out, at := copyOfStream(s), modelGroup(s, name, "any", 0)
	if at < 0 {
		return out, 0
	}
	g := &out.Groups[at]
	g.Waits = slices.DeleteFunc(g.Waits, func(w impl.Wait) bool { return slices.Contains(ids, w.Id) })
	return out, len(s.Groups[at].Waits) - len(g.Waits)
}

func modelTake(s impl.Stream, name string, who string, now int, idle int) (impl.Stream, []impl.Item) {
	if !modelStreamOk(s) {
		return impl.Stream{}, nil
	}
	out, at := copyOfStream(s), modelGroup(s, name, who, now)
	if at < 0 || idle < 0 {
		return out, nil
	}
	g := &out.Groups[at]
	g.Waits = nil
	var told []impl.Item
	for _, w := range s.Groups[at].Waits {
		item := slices.IndexFunc(s.Items, func(i impl.Item) bool { return i.Id == w.Id })
		taken := w.Who != who && now-w.At >= idle
		switch {
		case !taken:
			g.Waits = append(g.Waits, w)
		case item >= 0:
			g.Waits = append(g.Waits, impl.Wait{Id: w.Id, Who: who, At: now, Times: min(most, w.Times+1)})
			told = append(told, s.Items[item])
		}
	}
	return out, told
}

func modelWaits(s impl.Stream, name string, who string) []impl.Wait {
	if !modelStreamOk(s) {
		return nil
	}
	var out []impl.Wait
	for _, w := range groupNamed(s, name).Waits {
		if w.Who == who || who == "" {
			out = append(out, w)
		}
	}
	return out
}
