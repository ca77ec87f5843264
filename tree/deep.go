package tree

import (
	"slices"
	"strings"

	"topiary/api"
)

// reach is how many levels down the functions below call themselves. What
// lies deeper waits in a list for its turn, for a tree may be deeper than the
// stack can be.
const reach = 1000

// takeLast takes the last one off a list that is not empty.
func takeLast[T any](l *[]T) T {
	end := len(*l) - 1
	last := (*l)[end]
	*l = (*l)[:end]
	return last
}

// group: trees that stand beside one another, and how deep they lie.
type group struct {
	trees []api.Tree
	depth int
}

type counter struct {
	depth, count int
	waiting      []group
}

func (c *counter) countAll(l []api.Tree) {
	c.waiting = []group{{l, 1}}
	for len(c.waiting) > 0 {
		c.add(takeLast(&c.waiting), reach)
	}
}

func (c *counter) add(g group, levels int) {
	if len(g.trees) == 0 {
		return
	}
	if levels == 0 {
		c.waiting = append(c.waiting, g)
		return
	}
	c.depth = max(c.depth, g.depth)
	c.count += len(g.trees)
	for i := range g.trees {
		c.add(group{g.trees[i].Kids, g.depth + 1}, levels-1)
	}
}

// pair: lists of trees that are to be alike.
type pair struct{ a, b []api.Tree }

type comparer struct{ waiting []pair }

func (c *comparer) alikeAll(a, b []api.Tree) bool {
	c.waiting = []pair{{a, b}}
	for len(c.waiting) > 0 {
		if !c.alike(takeLast(&c.waiting), reach) {
			return false
		}
	}
	return true
}

// alike is whether nothing within reach tells the two lists apart.
func (c *comparer) alike(p pair, levels int) bool {
	if len(p.a) != len(p.b) {
		return false
	}
	if len(p.a) == 0 {
		return true
	}
	if levels == 0 {
		c.waiting = append(c.waiting, p)
		return true
	}
	for i := range p.a {
		if !alikeAlone(p.a[i], p.b[i]) || !c.alike(pair{p.a[i].Kids, p.b[i].Kids}, levels-1) {
			return false
		}
	}
	return true
}

// alikeAlone is whether two trees are alike, whatever their kids are.
func alikeAlone(a, b api.Tree) bool {
	return a.Text == b.Text && a.S == b.S && slices.Equal(a.Attrs, b.Attrs)
}

type joiner struct{ waiting [][]api.Tree }

func (j *joiner) joinAll(own []api.Tree) {
	j.waiting = [][]api.Tree{own}
	for len(j.waiting) > 0 {
		j.joinKids(takeLast(&j.waiting), reach)
	}
}

// joinKids writes into the list it is given: that must be one of joinTexts.
func (j *joiner) joinKids(own []api.Tree, levels int) {
	if len(own) == 0 {
		return
	}
	if levels == 0 {
		j.waiting = append(j.waiting, own)
		return
	}
	for i := range own {
		own[i].Kids = joinTexts(own[i].Kids)
		j.joinKids(own[i].Kids, levels-1)
	}
}

// joinTexts is a new list, in which the texts of l are joined; the kids of
// its trees are still those of l.
func joinTexts(l []api.Tree) []api.Tree {
	var joined []api.Tree
	for len(l) > 0 {
		n := textsAhead(l)
		if n == 0 {
			joined = append(joined, withOwnAttrs(l[0]))
			l = l[1:]
			continue
		}
		if t := oneText(l[:n]); t.S != "" {
			joined = append(joined, t)
		}
		l = l[n:]
	}
	return joined
}

// textsAhead is how many texts a list begins with.
func textsAhead(l []api.Tree) int {
	for i := range l {
		if !l[i].Text {
			return i
		}
	}
	return len(l)
}

// oneText is the text that texts beside one another make; its S is empty if
// they make none.
func oneText(texts []api.Tree) api.Tree {
	var first api.Tree
	var all strings.Builder
	for _, t := range texts {
		if all.Len() == 0 {
			first = t
		}
		all.WriteString(t.S)
	}
	first.S = all.String()
	return withOwnAttrs(first)
}

func withOwnAttrs(t api.Tree) api.Tree {
	t.Attrs = slices.Clone(t.Attrs)
	return t
}
