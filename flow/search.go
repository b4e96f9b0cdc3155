package flow

import "weirgate/api"

// most returns the flow that is greatest between two nodes, and what the last search for a way has found. The arcs of the network of what is left are in pairs: what is sent through one of them is left in the other one.
func most(n api.Net, from, to int) ([]int, []bool) {
	rest := Rest(n, make([]int, len(n.Arcs)))
	at := starts(rest)
	for {
		found, by := search(rest, at, from, to)
		if !found[to] {
			flow := make([]int, len(n.Arcs))
			for i := range flow {
				flow[i] = rest.Arcs[2*i+1].Cap
			}
			return flow, found
		}
		send(rest, by, from, to)
	}
}

// search finds nodes breadth first, until it has found the second one: which nodes it has found, and by which arcs.
func search(rest api.Net, at [][]int, from, to int) (found []bool, by []int) {
	found, by = make([]bool, rest.Nodes), make([]int, rest.Nodes)
	found[from] = true
	waiting := map[int]int{0: from} // the nodes by their places in the order in which they were found
	last := 0
visit:
	for next := 0; next <= last; next++ {
		node := waiting[next]
		delete(waiting, next)
		for _, i := range at[node] {
			a := rest.Arcs[i]
			if a.Cap == 0 || found[a.To] {
				continue
			}
			found[a.To], by[a.To] = true, i
			if a.To == to {
				break visit
			}
			last++
			waiting[last] = a.To
		}
	}
	return found, by
}

// send sends as much as possible along the way that a search has found.
func send(rest api.Net, by []int, from, to int) {
	backwards := func(visit func(arc int)) {
		for node := to; node != from; node = rest.Arcs[by[node]].From {
			visit(by[node])
		}
	}
	amount := rest.Arcs[by[to]].Cap
	backwards(func(arc int) { amount = min(amount, rest.Arcs[arc].Cap) })
	backwards(func(arc int) {
		rest.Arcs[arc].Cap -= amount
		rest.Arcs[arc^1].Cap += amount
	})
}

// Paths divides a flow into ways.
func Paths(n api.Net, from, to int, flow []int) ([][]int, []int, api.Errno) {
	if e := Check(n, from, to, flow); e != api.OK {
		return nil, nil, e
	}
	w := walker{n: n, at: starts(n), left: append([]int(nil), flow...)}
	var ways [][]int
	var amounts []int
	for left := Value(n, from, flow); left > 0; {
		way, whole := w.walk(from, to)
		amount := w.take(way)
		if whole {
			ways = append(ways, way)
			amounts = append(amounts, amount)
			left -= amount
		}
	}
	return ways, amounts, api.OK
}

// walker follows what is left of a flow.
type walker struct {
	n    api.Net
	at   [][]int
	left []int
}

// walk follows arcs with flow from a node on: up to the second node (then it returns the whole way), or until it meets a node again (then it returns the circle).
func (w *walker) walk(from, to int) (way []int, whole bool) {
	met := map[int]int{from: 0} // how many arcs lead to a node
	for node := from; node != to; {
		arc := w.first(node)
		way = append(way, arc)
		node = w.n.Arcs[arc].To
		if begin, again := met[node]; again {
			return way[begin:], false
		}
		met[node] = len(way)
	}
	return way, true
}

// first returns the first arc with flow that begins at a node. Flow is only taken away, so arcs without it are forgotten.
func (w *walker) first(node int) int {
	for w.left[w.at[node][0]] == 0 {
		w.at[node] = w.at[node][1:]
	}
	return w.at[node][0]
}

// take takes the least number of some arcs from all of them.
func (w *walker) take(arcs []int) int {
	amount := w.left[arcs[0]]
	for _, arc := range arcs {
		amount = min(amount, w.left[arc])
	}
	for _, arc := range arcs {
		w.left[arc] -= amount
	}
	return amount
}
