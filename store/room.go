package store

import (
	"cmp"
	"maps"
	"slices"

	"weirgate/api"
)

const (
	none = -1
	// spare is how many slots stay free when something is written: two segments, so that after a failure, and also after one while a segment is emptied, there is one into which chunks can be moved.
	spare = 2 * api.SegChunks
)

// append appends a chunk.
func (s *Store) append(r record, data string) (api.Place, api.Errno) {
	p, why := s.log.Append(r.key(), data)
	if why != api.OK {
		return api.Place{}, why
	}
	s.chunks[p] = r
	s.version = max(s.version, r.version)
	s.current, s.left = p.Seg, api.SegChunks-1-p.Slot
	return p, api.OK
}

// slots returns how many chunks can be appended.
func (s *Store) slots() int { return s.left + api.SegChunks*s.log.Free() }

// makeRoom empties segments until some chunks can be written, and the spare slots stay free.
func (s *Store) makeRoom(n int) api.Errno {
	if s.d.Down() {
		return api.ErrDown
	}
making:
	for s.slots() < n+spare {
		living := s.living()
		segments := slices.DeleteFunc(s.usedSegments(), func(seg int) bool {
			return seg == s.current || len(living[seg]) == api.SegChunks
		})
		if len(segments) == 0 {
			break making
		}
		seg := slices.MinFunc(segments, func(a, b int) int { return cmp.Compare(len(living[a]), len(living[b])) })
		if len(living[seg]) > s.slots() {
			break making
		}
		if why := s.empty(seg, living[seg]); why != api.OK {
			return why
		}
	}
	return api.OK
}

// usedSegments returns the segments that have chunks, in ascending order.
func (s *Store) usedSegments() []int {
	used := map[int]bool{}
	for p := range s.chunks {
		used[p.Seg] = true
	}
	return slices.Sorted(maps.Keys(used))
}

// living returns, for each segment, the chunks that still count, in ascending order.
func (s *Store) living() map[int][]api.Place {
	tombstones := s.tombstones()
	living := map[int][]api.Place{}
	for p, r := range s.chunks {
		o := s.objects[s.names[r.name]]
		lives := r.isTombstone() && tombstones[r.name] == p || !r.isTombstone() && o != nil && o.version == r.version && o.places[r.piece] == p
		if lives {
			living[p.Seg] = append(living[p.Seg], p)
		}
	}
	for _, l := range living {
		slices.SortFunc(l, func(a, b api.Place) int { return cmp.Compare(a.Seq, b.Seq) })
	}
	return living
}

// tombstones returns the tombstones that still count: of an object that is not held, and of which there are pieces, the one with the greatest version (of several the first one).
func (s *Store) tombstones() map[api.Digest]api.Place {
	hasPieces := map[api.Digest]bool{}
	for _, r := range s.chunks {
		if !r.isTombstone() && s.names[r.name] == "" {
			hasPieces[r.name] = true
		}
	}
	newest := map[api.Digest]api.Place{}
	for p, r := range s.chunks {
		if !r.isTombstone() || !hasPieces[r.name] {
			continue
		}
		q, found := newest[r.name]
		if version := s.chunks[q].version; !found || r.version > version || r.version == version && p.Seq < q.Seq {
			newest[r.name] = p
		}
	}
	return newest
}

// empty moves the chunks of a segment that still count to others, and drops it. An object of which a chunk cannot be read is lost.
func (s *Store) empty(seg int, living []api.Place) api.Errno {
	for _, p := range living {
		r := s.chunks[p]
		name := s.names[r.name]
		if !r.isTombstone() && name == "" {
			continue
		}
		_, data, why := s.log.Read(p)
		switch {
		case why == api.ErrDown:
			return why
		case r.isTombstone():
			data = ""
		case why != api.OK:
			s.lose(name)
			continue
		}
		q, why := s.append(r, data)
		if why != api.OK {
			return why
		}
		if !r.isTombstone() {
			s.objects[name].places[r.piece] = q
		}
	}
	return s.drop(seg)
}

// drop drops a segment.
func (s *Store) drop(seg int) api.Errno {
	if why := s.log.Drop(seg); why != api.OK {
		return why
	}
	for p := range s.chunks {
		if p.Seg == seg {
			delete(s.chunks, p)
		}
	}
	return api.OK
}
