package tariff

import "cocket/api"

// noCode is where a diagram leads a thing that has no code.
const noCode = -1

// atCode is where a diagram leads a thing that has this code.
func atCode(code int) int {
	return -2 - code
}

// codeAt is the code of a thing that a diagram leads there.
func codeAt(to int) int {
	return -2 - to
}

// maxBands is into how many bands the rules of one tariff cut a mark at most.
const maxBands = 2*api.MaxRules + 1

// draft is a node before it has its number: its mark, and where to go from each band of the grid.
// All nodes of a mark have the same bands, so that two nodes are the same exactly if the arrays are.
type draft [1 + maxBands]int32

// drawing is the nodes that were found up to now, each after all those to which it leads.
type drawing struct {
	grid   *grid
	drafts []draft
	places map[draft]int // where among the drafts a node stands
	known  map[key]int   // where to go, as in a diagram, but with places for indices
}

func (g *grid) diagram() []api.Node {
	w := &drawing{grid: g, places: map[draft]int{}, known: map[key]int{}}
	to := w.lead(0, g.all())
	if to < 0 {
		return []api.Node{{Mark: 0, Cuts: []int{api.MaxMark + 1}, To: []int{to}}}
	}
	n := &numbering{drawing: w, numbers: make([]int, len(w.drafts))}
	n.number(to)
	return n.nodes
}

// lead returns where to go at a mark, if these rules fit what came before.
func (w *drawing) lead(mark int, fit set) int {
	if mark == w.grid.k {
		return w.grid.answer(fit)
	}
	if to, ok := w.known[keyOf(mark, fit)]; ok {
		return to
	}
	d := draft{int32(mark)}
	needed := false
	for i, b := range w.grid.bands[mark] {
		d[1+i] = int32(w.lead(mark+1, w.grid.next(mark, fit, b)))
		needed = needed || d[1+i] != d[1]
	}
	to := int(d[1])
	if needed {
		to = w.place(d)
	}
	w.known[keyOf(mark, fit)] = to
	return to
}

// place returns where the node stands, which is added if it is new.
func (w *drawing) place(d draft) int {
	i, ok := w.places[d]
	if !ok {
		i = len(w.drafts)
		w.places[d] = i
		w.drafts = append(w.drafts, d)
	}
	return i
}

// numbering gives the nodes of a drawing their numbers, in the order in which they are first come to.
type numbering struct {
	*drawing
	numbers []int // of each draft, plus 1: 0 is none yet
	nodes   []api.Node
}

// number returns where to go in the diagram, for where to go in the drawing.
func (n *numbering) number(to int) int {
	if to < 0 {
		return to
	}
	if n.numbers[to] > 0 {
		return n.numbers[to] - 1
	}
	index := len(n.nodes)
	n.numbers[to] = index + 1
	n.nodes = append(n.nodes, api.Node{}) // holds the index: the nodes after it are numbered first
	d := n.drafts[to]
	node := api.Node{Mark: int(d[0])}
	for i, b := range n.grid.bands[node.Mark] {
		if i > 0 && d[1+i] == d[i] {
			node.Cuts[len(node.Cuts)-1] = b.hi
			continue
		}
		next := n.number(int(d[1+i]))
		node.Cuts = append(node.Cuts, b.hi)
		node.To = append(node.To, next)
	}
	n.nodes[index] = node
	return index
}
