// Package tree: see ../../shared/doc/01-tree.md.
package tree

import "topiary/api"

// Named is whether a text is a name.
func Named(s string) bool {
	if len(s) < 1 || len(s) > api.MaxName {
		return false
	}
	for i := range len(s) {
		if s[i] < 'a' || s[i] > 'z' {
			return false
		}
	}
	return true
}

// Plain is whether a text may be a value, or, if it is not empty, a text.
func Plain(s string) bool {
	if len(s) > api.MaxText {
		return false
	}
	for i := range len(s) {
		if s[i] != 10 && (s[i] < 32 || s[i] > 126) {
			return false
		}
	}
	return true
}

// GoodAttrs is whether attributes are some: by name, each once.
func GoodAttrs(l []api.Attr) bool {
	if len(l) > api.MaxAttrs {
		return false
	}
	for i, a := range l {
		if !Named(a.Name) || !Plain(a.Value) {
			return false
		}
		if i > 0 && l[i-1].Name >= a.Name {
			return false
		}
	}
	return true
}

// Size is how deep a tree is, and how many nodes it has.
func Size(t api.Tree) (int, int) {
	var c counter
	c.countAll([]api.Tree{t})
	return c.depth, c.count
}

// Good is whether a tree is a document's: an element, not too deep, not too large, no texts beside one another.
func Good(t api.Tree) bool {
	return !t.Text && Content([]api.Tree{t})
}

// Content is whether trees may be put in: not too deep, not too large, no texts beside one another.
func Content(l []api.Tree) bool {
	return roomBehind(l, api.MaxDepth, api.MaxNodes) >= 0
}

// Same is whether two trees are alike.
func Same(a, b api.Tree) bool {
	var c comparer
	return c.alikeAll([]api.Tree{a}, []api.Tree{b})
}

// Joined is trees in which texts beside one another are one, and empty ones none.
func Joined(l []api.Tree) []api.Tree {
	own := joinTexts(l)
	var j joiner
	j.joinAll(own)
	return own
}
