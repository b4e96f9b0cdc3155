package graph

import "weirgate/api"

// Depths returns the depths of the nodes of a tree.
func Depths(parents []int) ([]int, api.Errno) {
	if !wellFormed(parents) {
		return nil, api.ErrForm
	}
	depths := make([]int, len(parents))
	for node := range parents {
		depths[node] = len(climb(parents, node)) - 1
	}
	return depths, api.OK
}

// Climb returns the nodes from a node to its root.
func Climb(parents []int, node int) ([]int, api.Errno) {
	if e := check(parents, node); e != api.OK {
		return nil, e
	}
	return climb(parents, node), api.OK
}

// Below returns the nodes below a node.
func Below(parents []int, node int) ([]int, api.Errno) {
	if e := check(parents, node); e != api.OK {
		return nil, e
	}
	var below []int
candidates:
	for other := range parents {
		for _, above := range climb(parents, other) {
			if above == node {
				below = append(below, other)
				continue candidates
			}
		}
	}
	return below, api.OK
}

func check(parents []int, node int) api.Errno {
	if !wellFormed(parents) {
		return api.ErrForm
	}
	if node < 0 || node >= len(parents) {
		return api.ErrArg
	}
	return api.OK
}

func wellFormed(parents []int) bool {
	if len(parents) > api.MaxNodes {
		return false
	}
	for _, p := range parents {
		if p < -1 || p >= len(parents) {
			return false
		}
	}
	for node := range parents {
		if len(climb(parents, node)) > len(parents) {
			return false
		}
	}
	return true
}

// climb returns the nodes from a node to its root; if it comes to none, some more nodes than there are.
func climb(parents []int, node int) []int {
	var l []int
	for ; node != -1 && len(l) <= len(parents); node = parents[node] {
		l = append(l, node)
	}
	return l
}
