package doc

import (
	"slices"

	"topiary/api"
)

// noParent is the Parent of the root.
const noParent = -1

func among(nodes []api.Node, n int) bool { return n >= 0 && n < len(nodes) }

// lay makes nodes of a tree, from number *next on, which goes on to the
// number behind them. There must be room for them.
func lay(nodes []api.Node, t api.Tree, parent int, next *int) {
	n := *next
	*next++
	nodes[n] = api.Node{Text: t.Text, S: t.S, Attrs: slices.Clone(t.Attrs), Parent: parent}
	for _, k := range t.Kids {
		nodes[n].Kids = append(nodes[n].Kids, *next)
		lay(nodes, k, n, next)
	}
}

// inOrder is whether at number *next a node of that parent stands, and behind
// it all that is in it, as one reads them; *next goes on to the number behind
// them. No node is met twice, so that it ends however wrong the numbers are.
func inOrder(nodes []api.Node, parent int, next *int) bool {
	n := *next
	if !among(nodes, n) || nodes[n].Parent != parent {
		return false
	}
	*next++
	for _, k := range nodes[n].Kids {
		if k != *next || !inOrder(nodes, n, next) {
			return false
		}
	}
	return true
}

// grown is the tree at a node. The nodes must be in order.
func grown(nodes []api.Node, n int) api.Tree {
	node := nodes[n]
	t := api.Tree{Text: node.Text, S: node.S, Attrs: slices.Clone(node.Attrs)}
	for _, k := range node.Kids {
		t.Kids = append(t.Kids, grown(nodes, k))
	}
	return t
}

// lastIn is the last node that is in a node: the last kid's last kid, and so
// on. The nodes must be in order.
func lastIn(nodes []api.Node, n int) int {
	for len(nodes[n].Kids) > 0 {
		kids := nodes[n].Kids
		n = kids[len(kids)-1]
	}
	return n
}
