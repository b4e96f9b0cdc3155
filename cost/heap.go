package cost

// heap is what waits, of which the least is taken first.
type heap[T any] struct {
	items []T
	less  func(a, b T) bool
}

func (h *heap[T]) push(x T) {
	h.items = append(h.items, x)
	for i := len(h.items) - 1; i > 0; {
		above := (i - 1) / 2
		if !h.less(h.items[i], h.items[above]) {
			return
		}
		h.items[i], h.items[above] = h.items[above], h.items[i]
		i = above
	}
}

func (h *heap[T]) pop() T {
	top, last := h.items[0], len(h.items)-1
	h.items[0] = h.items[last]
	h.items = h.items[:last]
	for i := 0; ; {
		least := i
		for below := 2*i + 1; below <= 2*i+2 && below < last; below++ {
			if h.less(h.items[below], h.items[least]) {
				least = below
			}
		}
		if least == i {
			return top
		}
		h.items[i], h.items[least] = h.items[least], h.items[i]
		i = least
	}
}
