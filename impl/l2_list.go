package impl

import (
	"iter"
	"slices"
)

// Limits of what stands under a key.
const (
	ListMax = 16
)

// slots is the room of a ring: behind its end it begins again.
type slots [ListMax]string

func (s *slots) get(at int) string {
	return s[at%ListMax]
}

func (s *slots) put(at int, text string) {
	s[at%ListMax] = text
}

// ring is a list that grows and shrinks at either end, without moving what it has.
type ring struct {
	slots
	first int
	size  int
}

// ringOf is false of a list that is not ok.
func ringOf(list []string) (ring, bool) {
	var r ring
	if !listOk(list) {
		return r, false
	}
	for _, text := range list {
		r.push(false, text)
	}
	return r, true
}

// push needs room for one more.
func (r *ring) push(front bool, text string) {
	r.size++
	if front {
		r.first = (r.first + ListMax - 1) % ListMax
		r.put(r.first, text)
		return
	}
	r.put(r.first+r.size-1, text)
}

// pop needs a ring that is not empty.
func (r *ring) pop(front bool) string {
	r.size--
	if !front {
		return r.get(r.first + r.size)
	}
	text := r.get(r.first)
	r.first = (r.first + 1) % ListMax
	return text
}

func (r *ring) texts() []string {
	return r.between(0, r.size)
}

// between is new memory each time.
func (r *ring) between(from int, end int) []string {
	out := make([]string, 0, end-from)
	for at := from; at < end; at++ {
		out = append(out, r.get(r.first+at))
	}
	return out
}

func listOk(list []string) bool {
	return len(list) <= ListMax && textsOk(list)
}

// placesBetween is where places from one to another one begin and end (the end is behind the last), of so many.
func placesBetween(size int, from int, to int) (int, int) {
	if from < 0 {
		from = max(from+size, 0)
	}
	if to < 0 {
		to += size
	}
	to = min(to, size-1)
	if from > to {
		return 0, 0
	}
	return from, to + 1
}

// ListPush puts texts at the end, or one by one at the front.
func ListPush(list []string, front bool, texts []string) ([]string, bool) {
	r, ok := ringOf(list)
	if !ok {
		return nil, false
	}
	if !listOk(texts) || r.size+len(texts) > ListMax {
		return r.texts(), false
	}
	for _, text := range texts {
		r.push(front, text)
	}
	return r.texts(), true
}

// ListPop takes the last text, or the first.
func ListPop(list []string, front bool) ([]string, string, bool) {
	r, ok := ringOf(list)
	if !ok || r.size == 0 {
		return nil, "", false
	}
	text := r.pop(front)
	return r.texts(), text, true
}

// ListRange is texts from one place to another one; below 0 from the end.
func ListRange(list []string, from int, to int) []string {
	r, ok := ringOf(list)
	if !ok || !numberOk(from) || !numberOk(to) {
		return nil
	}
	return r.between(placesBetween(r.size, from, to))
}

// ListTrim leaves texts from one place to another one.
func ListTrim(list []string, from int, to int) []string {
	return ListRange(list, from, to)
}

// ListSet puts a text in the place of another one.
func ListSet(list []string, at int, text string) ([]string, bool) {
	r, ok := ringOf(list)
	if !ok {
		return nil, false
	}
	if at < 0 {
		at += r.size
	}
	if at < 0 || at >= r.size || len(text) > TextMax {
		return r.texts(), false
	}
	r.put(r.first+at, text)
	return r.texts(), true
}

// ListDrop takes texts away that are one: the first so many, the last so many, if that is below 0, or all; and how many these are.
func ListDrop(list []string, count int, text string) ([]string, int) {
	r, ok := ringOf(list)
	if !ok || !numberOk(count) {
		return nil, 0
	}
	front, most := count >= 0, max(count, -count)
	if count == 0 {
		most = r.size
	}
	var kept ring
	gone := 0
	for r.size > 0 {
		next := r.pop(front)
		if next == text && gone < most {
			gone++
			continue
		}
		kept.push(!front, next)
	}
	return kept.texts(), gone
}

// Which of two sets has a text.
const (
	inFirst  = 1
	inSecond = 2
	inBoth   = 4
)

// merged goes through what two ascending lists have, in order, each text once, with which of them has it.
func merged(a []string, b []string) iter.Seq2[string, int] {
	return func(yield func(string, int) bool) {
		i, j := 0, 0
		for i < len(a) || j < len(b) {
			text, in := "", 0
			switch {
			case j == len(b) || i < len(a) && a[i] < b[j]:
				text, in = a[i], inFirst
				i++
			case i == len(a) || b[j] < a[i]:
				text, in = b[j], inSecond
				j++
			default:
				text, in = a[i], inBoth
				i++
				j++
			}
			if !yield(text, in) {
				return
			}
		}
	}
}

// pick is the texts of two ascending lists that are in as wanted, the sum of some of inFirst, inSecond and inBoth.
func pick(a []string, b []string, wanted int) []string {
	var out []string
	for text, in := range merged(a, b) {
		if in&wanted != 0 {
			out = append(out, text)
		}
	}
	return out
}

func ascending(texts []string) []string {
	out := slices.Clone(texts)
	slices.Sort(out)
	return slices.Compact(out)
}

// SetAdd puts texts among others, and how many are new.
func SetAdd(set []string, texts []string) ([]string, int, bool) {
	if !SetOk(set) {
		return nil, 0, false
	}
	if !listOk(texts) {
		return slices.Clone(set), 0, false
	}
	all := SetAny(set, ascending(texts))
	if len(all) > ListMax {
		return slices.Clone(set), 0, false
	}
	return all, len(all) - len(set), true
}

// SetDrop takes texts away, and how many were there.
func SetDrop(set []string, texts []string) ([]string, int) {
	if !SetOk(set) {
		return nil, 0
	}
	left := pick(set, ascending(texts), inFirst)
	return left, len(set) - len(left)
}

// pickOfSets is nothing of what is no set.
func pickOfSets(a []string, b []string, wanted int) []string {
	if !SetOk(a) || !SetOk(b) {
		return nil
	}
	return pick(a, b, wanted)
}

// SetBoth is what two sets have in common, SetAny what one has, SetLess what the first has alone.
func SetBoth(a []string, b []string) []string {
	return pickOfSets(a, b, inBoth)
}

// SetAny is what one of two sets has.
func SetAny(a []string, b []string) []string {
	return pickOfSets(a, b, inFirst|inSecond|inBoth)
}

// SetLess is what the first has, and not the second.
func SetLess(a []string, b []string) []string {
	return pickOfSets(a, b, inFirst)
}

// SetOk says whether texts are a set: ascending, each once.
func SetOk(set []string) bool {
	if !listOk(set) {
		return false
	}
	for at := 1; at < len(set); at++ {
		if set[at-1] >= set[at] {
			return false
		}
	}
	return true
}
