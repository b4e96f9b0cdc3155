// Package playlist keeps playlists of live streams (layer 43, shared/doc/43-playlist.md).
package playlist

import (
	"slices"

	"weirgate/api"
)

func validSegment(s api.Segment) bool {
	return s.Num >= 0 && s.Num <= api.MaxSegments && s.Begin >= 0 && s.Begin <= api.MaxTime &&
		s.Len >= 1 && s.Len <= api.MaxSegment && s.Size >= 0 && s.Size <= api.MaxBytes
}

func end(s api.Segment) int { return s.Begin + s.Len }

// isStream reports whether segments are valid, with numbers and times that follow one another.
func isStream(l []api.Segment) bool {
	for i, s := range l {
		if !validSegment(s) || i > 0 && (s.Num != l[i-1].Num+1 || s.Begin != end(l[i-1])) {
			return false
		}
	}
	return true
}

// Valid reports whether a playlist is valid.
func Valid(p api.Playlist) bool {
	if p.First < 0 || p.First > api.MaxSegments || len(p.L) > api.MaxWindow {
		return false
	}
	return isStream(p.L) && (len(p.L) == 0 || p.L[0].Num == p.First)
}

// Next returns the number of the segment that comes next.
func Next(p api.Playlist) int { return p.First + len(p.L) }

// Edge returns where the last segment ends.
func Edge(p api.Playlist) int {
	if len(p.L) == 0 {
		return 0
	}
	return end(p.L[len(p.L)-1])
}

func validWindow(window int) bool { return window >= 1 && window <= api.MaxWindow }

// made returns a playlist of new memory with some segments, cut to a window; without segments, its first number is as given.
func made(first int, l []api.Segment, done bool, window int) api.Playlist {
	l = l[max(0, len(l)-window):]
	if len(l) > 0 {
		first = l[0].Num
	}
	return api.Playlist{First: first, L: slices.Clone(l), Done: done}
}

// Push adds a segment.
func Push(p api.Playlist, s api.Segment, window int) (api.Playlist, api.Errno) {
	if !validWindow(window) {
		return api.Playlist{}, api.ErrArg
	}
	if p.Done {
		return api.Playlist{}, api.ErrState
	}
	if s.Num != Next(p) || len(p.L) > 0 && s.Begin != Edge(p) {
		return api.Playlist{}, api.ErrForm
	}
	return made(p.First, append(slices.Clone(p.L), s), false, window), api.OK
}

// End says that there will be no more.
func End(p api.Playlist) api.Playlist {
	return api.Playlist{First: p.First, L: slices.Clone(p.L), Done: true}
}

// Find returns the segment with a number.
func Find(p api.Playlist, num int) (api.Segment, api.Errno) {
	return find(p.L, func(s api.Segment) bool { return s.Num == num })
}

// At returns the segment in which an instant lies.
func At(p api.Playlist, t int) (api.Segment, api.Errno) {
	return find(p.L, func(s api.Segment) bool { return s.Begin <= t && t < end(s) })
}

func find(l []api.Segment, is func(s api.Segment) bool) (api.Segment, api.Errno) {
	i := slices.IndexFunc(l, is)
	if i < 0 {
		return api.Segment{}, api.ErrName
	}
	return l[i], api.OK
}

// Merge returns what two playlists say together.
func Merge(a, b api.Playlist, window int) (api.Playlist, api.Errno) {
	if !validWindow(window) {
		return api.Playlist{}, api.ErrArg
	}
	late, early := a, b
	if Next(b) > Next(a) {
		late, early = b, a
	}
	if forked(late, early) {
		return api.Playlist{}, api.ErrFork
	}
	l := slices.Clone(late.L)
	if len(early.L) > 0 && len(late.L) > 0 && Next(early) >= late.First {
		older := max(0, min(late.First-early.First, len(early.L)))
		l = append(slices.Clone(early.L[:older]), l...)
	}
	return made(late.First, l, a.Done || b.Done, window), api.OK
}

// forked reports whether two playlists cannot be of one stream.
func forked(late, early api.Playlist) bool {
	if early.Done && Next(early) < Next(late) {
		return true
	}
	for _, s := range early.L {
		if other, e := Find(late, s.Num); e == api.OK && other != s {
			return true
		}
	}
	touch := len(early.L) > 0 && len(late.L) > 0 && Next(early) == late.First
	return touch && Edge(early) != late.L[0].Begin
}
