package cost

import (
	"iter"

	"weirgate/api"
)

// edge is what is left of an arc, or (backwards) what was sent through it.
type edge struct{ from, to, left, cost int }

// residual is what is left of a network: the edges 2 i and 2 i + 1 belong to the arc i, and what is taken of one is left in the other one.
type residual struct {
	edges []edge
	at    [][]int // the edges that begin at each node
}

func newResidual(n api.Net, flow []int) *residual {
	r := &residual{at: make([][]int, n.Nodes)}
	for i, a := range n.Arcs {
		r.edges = append(r.edges, edge{a.From, a.To, a.Cap - flow[i], a.Cost}, edge{a.To, a.From, flow[i], -a.Cost})
		r.at[a.From] = append(r.at[a.From], 2*i)
		r.at[a.To] = append(r.at[a.To], 2*i+1)
	}
	return r
}

// flow returns what was sent through each arc.
func (r *residual) flow() []int {
	l := make([]int, len(r.edges)/2)
	for i := range l {
		l[i] = r.edges[2*i+1].left
	}
	return l
}

// open yields the edges at a node through which something can be sent.
func (r *residual) open(node int) iter.Seq[edge] {
	return func(yield func(edge) bool) {
		for _, i := range r.at[node] {
			if e := r.edges[i]; e.left > 0 && !yield(e) {
				return
			}
		}
	}
}

// reduced returns the cost of an edge at prices of its ends.
func (e edge) reduced(price []int) int { return e.cost + price[e.from] - price[e.to] }

// nearest returns which nodes can be reached, and the least reduced costs of ways to them; these are not negative.
func (r *residual) nearest(from int, price []int) (found []bool, dist []int) {
	found, dist = make([]bool, len(r.at)), make([]int, len(r.at))
	type visit struct{ node, dist int }
	waiting := heap[visit]{less: func(a, b visit) bool { return a.dist < b.dist }}
	waiting.push(visit{from, 0})
	for len(waiting.items) > 0 {
		v := waiting.pop()
		if found[v.node] {
			continue
		}
		found[v.node], dist[v.node] = true, v.dist
		for e := range r.open(v.node) {
			if !found[e.to] {
				waiting.push(visit{e.to, v.dist + e.reduced(price)})
			}
		}
	}
	return found, dist
}

// fill sends as much as possible, but no more than a limit, through edges that cost nothing at the prices.
func (r *residual) fill(from, to int, price []int, limit int) int {
	sent := 0
	for sent < limit {
		depth := r.depths(from, price)
		if depth[to] == 0 {
			break
		}
		next := make([]int, len(r.at)) // the edges before it at a node lead no further
		var send func(node, most int) int
		send = func(node, most int) int {
			if node == to {
				return most
			}
			done := 0
			for ; done < most && next[node] < len(r.at[node]); next[node]++ {
				i := r.at[node][next[node]]
				e := r.edges[i]
				if e.left == 0 || e.reduced(price) != 0 || depth[e.to] != depth[node]+1 {
					continue
				}
				more := send(e.to, min(most-done, e.left))
				r.edges[i].left -= more
				r.edges[i^1].left += more
				done += more
				if done == most {
					break // the edge may lead further
				}
			}
			return done
		}
		sent += send(from, limit-sent)
	}
	return sent
}

// depths returns how many free edges lead to each node at least, and one more; 0 if none do.
func (r *residual) depths(from int, price []int) []int {
	depth := make([]int, len(r.at))
	depth[from] = 1
	for queue := []int{from}; len(queue) > 0; queue = queue[1:] {
		for e := range r.open(queue[0]) {
			if e.reduced(price) == 0 && depth[e.to] == 0 {
				depth[e.to] = depth[e.from] + 1
				queue = append(queue, e.to)
			}
		}
	}
	return depth
}
