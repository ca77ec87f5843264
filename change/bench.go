package change

import (
	"slices"
	"strings"

	"topiary/api"
)

// bench: nodes by number, those of a document first, then those that were put
// in. Their lists of kids need not be in order, and a node that was taken out
// of its list stays on the bench. A change finds its node's list by the
// Parent, so that none goes wrong where another one took that parent out.
type bench struct{ nodes []api.Node }

// newBench is a bench with lists of its own: those of the document are not to
// be changed, nor is their spare room.
func newBench(nodes []api.Node) *bench {
	b := &bench{nodes: slices.Clone(nodes)}
	for i := range b.nodes {
		b.nodes[i].Attrs = slices.Clone(b.nodes[i].Attrs)
		b.nodes[i].Kids = slices.Clone(b.nodes[i].Kids)
	}
	return b
}

// doAll does changes that Check finds nothing wrong with, kind by kind, so
// that it does not matter which kind is said first: Content is put in while
// all nodes stand in their places, then nodes are taken out, and Value is
// last, for it is all that an element has.
func (b *bench) doAll(l []api.Op) {
	backwards := slices.Clone(l)
	slices.Reverse(backwards)
	doKind(l, api.Rename, b.rename)
	doKind(l, api.Set, b.set)
	doKind(l, api.Drop, b.drop)
	doKind(l, api.Before, b.putBefore)
	doKind(l, api.Last, b.putLast)
	// These push on what was put in earlier: the first one said comes last.
	doKind(backwards, api.First, b.putFirst)
	doKind(backwards, api.After, b.putAfter)
	doKind(l, api.Replace, b.replace)
	doKind(l, api.Delete, b.takeOut)
	doKind(l, api.Value, b.value)
}

func doKind(l []api.Op, kind int, do func(api.Op)) {
	for _, o := range l {
		if o.Kind == kind {
			do(o)
		}
	}
}

func (b *bench) rename(o api.Op) { b.nodes[o.Target].S = o.Name }

func (b *bench) set(o api.Op) {
	node := &b.nodes[o.Target]
	at, found := findAttr(node.Attrs, o.Name)
	if found {
		node.Attrs[at].Value = o.S
		return
	}
	node.Attrs = slices.Insert(node.Attrs, at, api.Attr{Name: o.Name, Value: o.S})
}

func (b *bench) drop(o api.Op) {
	node := &b.nodes[o.Target]
	if at, found := findAttr(node.Attrs, o.Name); found {
		node.Attrs = slices.Delete(node.Attrs, at, at+1)
	}
}

// findAttr is where an attribute of that name stands, or has to be put in,
// and whether there is one.
func findAttr(l []api.Attr, name string) (int, bool) {
	return slices.BinarySearchFunc(l, name, func(a api.Attr, name string) int {
		return strings.Compare(a.Name, name)
	})
}

func (b *bench) putFirst(o api.Op) { b.putIn(o.Target, 0, o.Content) }

func (b *bench) putLast(o api.Op) {
	b.putIn(o.Target, len(b.nodes[o.Target].Kids), o.Content)
}

func (b *bench) putBefore(o api.Op) {
	parent, at := b.place(o.Target)
	b.putIn(parent, at, o.Content)
}

func (b *bench) putAfter(o api.Op) {
	parent, at := b.place(o.Target)
	b.putIn(parent, at+1, o.Content)
}

// replace comes when all Befores are put in, and so puts its Content behind
// theirs.
func (b *bench) replace(o api.Op) {
	b.putBefore(o)
	b.takeOut(o)
}

// takeOut does nothing to a node that is taken out already: there may be
// several Deletes of it, and a Replace.
func (b *bench) takeOut(o api.Op) {
	parent, at := b.place(o.Target)
	if at >= 0 {
		kids := &b.nodes[parent].Kids
		*kids = slices.Delete(*kids, at, at+1)
	}
}

// value leaves an element a text even if S is empty: Joined makes that none.
func (b *bench) value(o api.Op) {
	if b.nodes[o.Target].Text {
		b.nodes[o.Target].S = o.S
		return
	}
	kid := b.lay(api.Tree{Text: true, S: o.S}, o.Target)
	b.nodes[o.Target].Kids = []int{kid}
}

// place is in whose list of kids a node stands, and where; -1, if it is taken
// out. It must not be the root.
func (b *bench) place(n int) (int, int) {
	parent := b.nodes[n].Parent
	return parent, slices.Index(b.nodes[parent].Kids, n)
}

// putIn puts trees into the kids of a node, the first of them at a place.
func (b *bench) putIn(parent, at int, l []api.Tree) {
	var laid []int
	for _, t := range l {
		laid = append(laid, b.lay(t, parent))
	}
	kids := &b.nodes[parent].Kids
	*kids = slices.Insert(*kids, at, laid...)
}

// lay lays a tree on the bench, and is its number. The list of nodes may be
// another one behind it.
func (b *bench) lay(t api.Tree, parent int) int {
	n := len(b.nodes)
	b.nodes = append(b.nodes, api.Node{Text: t.Text, S: t.S, Attrs: t.Attrs, Parent: parent})
	for _, k := range t.Kids {
		kid := b.lay(k, n)
		b.nodes[n].Kids = append(b.nodes[n].Kids, kid)
	}
	return n
}

// grown is the tree at a node, as it lies on the bench.
func (b *bench) grown(n int) api.Tree {
	node := b.nodes[n]
	t := api.Tree{Text: node.Text, S: node.S, Attrs: node.Attrs}
	for _, k := range node.Kids {
		t.Kids = append(t.Kids, b.grown(k))
	}
	return t
}
