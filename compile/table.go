package compile

// nothing is the number of the empty list.
const nothing = 0

// table has lists of which others were made by an element more; each list has one number, so lists are the same if their numbers are.
type table struct {
	nodes   []node // from the list 1 on
	numbers map[node]int
}

// node is a list: the one below its last element, this, and how many elements there are.
type node struct{ below, last, length int }

// push returns the list with one more element.
func (t *table) push(list, x int) int {
	n := node{list, x, t.length(list) + 1}
	if t.numbers == nil {
		t.numbers = map[node]int{}
	}
	number, ok := t.numbers[n]
	if !ok {
		t.nodes = append(t.nodes, n)
		number = len(t.nodes)
		t.numbers[n] = number
	}
	return number
}

// pop returns the last element of a list, and the list without it; 0 and the empty list for the empty one.
func (t *table) pop(list int) (int, int) {
	if list == nothing {
		return 0, nothing
	}
	n := t.nodes[list-1]
	return n.last, n.below
}

func (t *table) length(list int) int {
	if list == nothing {
		return 0
	}
	return t.nodes[list-1].length
}

// cut returns the first elements of a list that has as many.
func (t *table) cut(list, length int) int {
	for t.length(list) > length {
		_, list = t.pop(list)
	}
	return list
}
