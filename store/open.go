package store

import (
	"cmp"
	"slices"

	"weirgate/admit"
	"weirgate/api"
	"weirgate/chunk"
	"weirgate/disk"
)

// Open returns the store of a disk.
func Open(d *disk.Disk, l []api.Account, k api.Sketch) (*Store, api.Errno) {
	log, why := chunk.Open(d)
	if why != api.OK {
		return nil, why
	}
	room := api.RoomPerSegment*log.Segments() - api.RoomReserved
	if room <= 0 {
		return nil, api.ErrFull
	}
	shelf, why := admit.New(room, l, k)
	if why != api.OK {
		return nil, why
	}
	s := &Store{
		d: d, log: log, room: room, shelf: shelf, current: none,
		objects: map[string]*object{}, names: map[api.Digest]string{}, chunks: map[api.Place]record{},
	}
	for _, c := range log.List() {
		r, _ := readRecord(c.Key)
		s.chunks[c.At] = r
		s.version = max(s.version, r.version)
	}
	if why := s.find(); why != api.OK {
		return nil, why
	}
	return s, api.OK
}

// find finds the objects on the disk. Those for which there is no account or, because something has rotted, no room, are removed.
func (s *Store) find() api.Errno {
	var unwanted []string
	for _, o := range s.whole() {
		if s.names[o.name] != "" {
			continue // a later version of it was found
		}
		e, why := s.read(o.places)
		name := Name(e.Stamp)
		if why != api.OK || digestOf(name) != o.name || !isFit(e) || Pieces(e) != o.count {
			continue
		}
		o.stamp = e.Stamp
		s.hold(name, o)
		shelf, why := s.shelf, api.OK
		if used(s.shelf)+o.count <= s.room {
			shelf, _, why = admit.Admit(s.shelf, api.Stored{Name: name, Tenant: o.tenant, Size: o.count})
		} else {
			why = api.ErrFull
		}
		if why != api.OK {
			unwanted = append(unwanted, name)
		}
		s.shelf = shelf
	}
	for _, name := range unwanted {
		switch why := s.bury(name); why {
		case api.ErrDown:
			return why
		case api.ErrFull:
			s.lose(name)
		}
	}
	return api.OK
}

// whole returns the versions of objects of which all pieces are there, and that no tombstone has removed, the greatest version first.
func (s *Store) whole() []*object {
	buried := map[api.Digest]int{}
	versions := map[int]map[int]api.Place{} // the pieces of each version
	for p, r := range s.chunks {
		if r.isTombstone() {
			buried[r.name] = max(buried[r.name], r.version)
			continue
		}
		if versions[r.version] == nil {
			versions[r.version] = map[int]api.Place{}
		}
		// A failure may have left a piece that was being moved at both places: the first one counts, so that what was moved can be dropped.
		if q, found := versions[r.version][r.piece]; !found || p.Seq < q.Seq {
			versions[r.version][r.piece] = p
		}
	}
	var l []*object
	for _, pieces := range versions {
		if o := s.assemble(pieces); o != nil && o.version > buried[o.name] {
			l = append(l, o)
		}
	}
	slices.SortFunc(l, func(a, b *object) int { return cmp.Compare(b.version, a.version) })
	return l
}

// assemble returns the object that has pieces; nil if one of them is missing.
func (s *Store) assemble(pieces map[int]api.Place) *object {
	var o *object
	for piece, p := range pieces {
		if o == nil {
			r := s.chunks[p]
			if r.count != len(pieces) {
				return nil
			}
			o = &object{record: r, places: make([]api.Place, r.count)}
		}
		if piece < 0 || piece >= o.count {
			return nil
		}
		o.places[piece] = p
	}
	return o
}
