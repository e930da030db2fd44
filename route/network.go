package route

// network is what journeys can flow through: each leg is an arrow from its beginning to its end that only one of them can go through.
type network struct {
	open       [][]bool // whether one more can go from a node to another one, or one that went the other way can be taken back
	start, end int
}

// newNetwork makes the network of the journeys that are wished for. Leg i begins at node 2i and ends at node 2i + 1.
func newNetwork(t timetable, w wish) network {
	n := network{start: 2 * len(t.legs), end: 2*len(t.legs) + 1}
	n.open = make([][]bool, n.end+1)
	for node := range n.open {
		n.open[node] = make([]bool, n.end+1)
	}
	for i, leg := range t.legs {
		n.open[n.start][2*i] = w.begins(leg)
		n.open[2*i][2*i+1] = true
		n.open[2*i+1][n.end] = w.ends(leg)
		for j := range t.legs {
			if t.follows(i, j) {
				n.open[2*i+1][2*j] = true
			}
		}
	}
	return n
}

// flow returns how many can go from the start to the end.
func (n network) flow() int {
	count := 0
	for n.push(n.start, make([]bool, len(n.open))) {
		count++
	}
	return count
}

// push lets one more go from the node to the end, through nodes that were not seen yet, if that can be.
func (n network) push(node int, seen []bool) bool {
	if node == n.end {
		return true
	}
	seen[node] = true
	for next, open := range n.open[node] {
		if open && !seen[next] && n.push(next, seen) {
			n.open[node][next] = false
			n.open[next][node] = true
			return true
		}
	}
	return false
}
