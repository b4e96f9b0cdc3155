package index

import (
	"iter"

	"weirgate/hash"
)

// tagRank is the tag of the digests that give the ranks of keys.
const tagRank = 150

// priority decides which node stands above another one. It depends on the key alone, so that a tree depends on its keys alone, however it was made.
type priority struct{ rank uint64 }

// node is the root of a tree that is ordered by keys, and never changed; nil is the empty tree.
type node[V any] struct {
	priority
	key         string
	value       V
	left, right *node[V]
}

func priorityOf(key string) priority {
	var rank uint64
	for _, b := range hash.Of(tagRank, key) {
		rank = rank<<8 | uint64(b) // the last eight bytes remain
	}
	return priority{rank}
}

// above reports whether a node with a priority and a key stands above another one.
func (p priority) above(key string, q priority, other string) bool {
	return p.rank > q.rank || p.rank == q.rank && key < other
}

// get returns the value of a key.
func (n *node[V]) get(key string) (V, bool) {
	for n != nil && n.key != key {
		if key < n.key {
			n = n.left
		} else {
			n = n.right
		}
	}
	if n == nil {
		var zero V
		return zero, false
	}
	return n.value, true
}

// put returns the tree with a value for a key.
func (n *node[V]) put(key string, value V) *node[V] {
	return n.insert(node[V]{priority: priorityOf(key), key: key, value: value})
}

func (n *node[V]) insert(x node[V]) *node[V] {
	if n == nil || x.above(x.key, n.priority, n.key) {
		x.left, x.right = n.split(x.key)
		return &x
	}
	c := *n
	switch {
	case x.key < n.key:
		c.left = n.left.insert(x)
	case x.key > n.key:
		c.right = n.right.insert(x)
	default:
		c.value = x.value
	}
	return &c
}

// split returns the trees of the keys before a key, and behind it; the tree does not have the key itself.
func (n *node[V]) split(key string) (before, behind *node[V]) {
	if n == nil {
		return nil, nil
	}
	c := *n
	if n.key < key {
		c.right, behind = n.right.split(key)
		return &c, behind
	}
	before, c.left = n.left.split(key)
	return before, &c
}

// remove returns the tree without a key that it has.
func (n *node[V]) remove(key string) *node[V] {
	c := *n
	switch {
	case key < n.key:
		c.left = n.left.remove(key)
	case key > n.key:
		c.right = n.right.remove(key)
	default:
		return join(n.left, n.right)
	}
	return &c
}

// join returns the tree of two trees, of which the first one has the lesser keys.
func join[V any](a, b *node[V]) *node[V] {
	switch {
	case a == nil:
		return b
	case b == nil:
		return a
	case a.above(a.key, b.priority, b.key):
		c := *a
		c.right = join(a.right, b)
		return &c
	}
	c := *b
	c.left = join(a, b.left)
	return &c
}

// from yields the keys that are not less than a key, in ascending order, and their values.
func (n *node[V]) from(key string) iter.Seq2[string, V] {
	return func(yield func(string, V) bool) { n.visit(key, yield) }
}

func (n *node[V]) visit(key string, yield func(string, V) bool) bool {
	if n == nil {
		return true
	}
	if n.key < key {
		return n.right.visit(key, yield)
	}
	return n.left.visit(key, yield) && yield(n.key, n.value) && n.right.visit(key, yield)
}
