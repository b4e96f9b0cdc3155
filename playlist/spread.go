package playlist

import "weirgate/api"

const (
	maxStream = 1000 // segments
	maxTree   = 100  // places
)

// Spread tells when segments arrive at the places of a tree.
func Spread(l []api.Segment, parents []int, delays [][]int) ([][]int, api.Errno) {
	if len(l) > maxStream || !isStream(l) || !validTree(len(l), parents, delays) {
		return nil, api.ErrArg
	}
	arrivals := make([][]int, len(parents))
	below := func(visit func(place, parent int, delays []int)) {
		for i, parent := range parents[1:] {
			visit(i+1, parent, delays[i+1])
		}
	}
	for _, s := range l {
		arrivals[0] = append(arrivals[0], end(s))
	}
	below(func(place, parent int, delays []int) {
		last := 0
		for i, delay := range delays {
			last = max(last, arrivals[parent][i]+delay)
			arrivals[place] = append(arrivals[place], last)
		}
	})
	return arrivals, api.OK
}

// validTree reports whether each place but the source has a parent before it, and a delay for each segment.
func validTree(segments int, parents []int, delays [][]int) bool {
	if len(parents) == 0 || len(parents) > maxTree || len(delays) != len(parents) {
		return false
	}
	for i := 1; i < len(parents); i++ {
		if parents[i] < 0 || parents[i] >= i || len(delays[i]) != segments {
			return false
		}
		for _, delay := range delays[i] {
			if delay < 0 || delay > api.MaxTime {
				return false
			}
		}
	}
	return true
}

// Seen returns the playlist of a place at an instant.
func Seen(l []api.Segment, arrived []int, t, window int) api.Playlist {
	if len(l) == 0 {
		return api.Playlist{}
	}
	n := 0
	for n < len(l) && arrived[n] <= t {
		n++
	}
	return made(l[0].Num, append([]api.Segment(nil), l[:n]...), false, window)
}

// Lag bounds how far a place is behind.
func Lag(depth, hop, longest int) int { return longest + depth*hop }

// Gap bounds how much two places differ.
func Gap(depth, hop, shortest int) int { return (depth*hop + shortest - 1) / shortest }
