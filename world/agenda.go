package world

import (
	"cmp"
	"container/heap"
)

// thing is what happens at an instant.
type thing interface {
	happen(w *play)
}

// agenda is what will happen.
type agenda interface {
	add(at int, t thing)
	// next takes the thing away that happens first, if it does until an instant: of several at one instant, the one that was added first.
	next(until int) (at int, t thing, ok bool)
}

// newAgenda returns an agenda with nothing on it.
func newAgenda() agenda { return &schedule{} }

// schedule is an agenda with a heap.
type schedule struct {
	waiting entries
	added   int
}

// entry is a thing with its instant, and how many were added before it.
type entry struct {
	at, place int
	what      thing
}

func (s *schedule) add(at int, t thing) {
	heap.Push(&s.waiting, entry{at, s.added, t})
	s.added++
}

func (s *schedule) next(until int) (int, thing, bool) {
	if len(s.waiting) == 0 || s.waiting[0].at > until {
		return 0, nil, false
	}
	first := s.waiting[0]
	heap.Pop(&s.waiting)
	return first.at, first.what, true
}

// entries is a heap.
type entries []entry

// Len is for package heap, as are the others.
func (l entries) Len() int { return len(l) }

// Less reports whether an entry happens before another one.
func (l entries) Less(i, j int) bool {
	return cmp.Or(cmp.Compare(l[i].at, l[j].at), cmp.Compare(l[i].place, l[j].place)) < 0
}

// Swap swaps two entries.
func (l entries) Swap(i, j int) { l[i], l[j] = l[j], l[i] }

// Push adds an entry at the end.
func (l *entries) Push(x any) {
	if e, ok := x.(entry); ok {
		*l = append(*l, e)
	}
}

// Pop takes the last entry away.
func (l *entries) Pop() any {
	n := len(*l) - 1
	last := (*l)[n]
	*l = (*l)[:n]
	return last
}
