package doc

import (
	"math"
	"math/rand"
	"reflect"
	"runtime/debug"
	"slices"
	"strings"
	"testing"

	"topiary/api"
	"topiary/tree"
)

func text(s string) api.Tree { return api.Tree{Text: true, S: s} }

func element(name string, kids ...api.Tree) api.Tree { return api.Tree{S: name, Kids: kids} }

func withAttrs(t api.Tree, attrs ...api.Attr) api.Tree {
	t.Attrs = attrs
	return t
}

func chain(levels int, t api.Tree) api.Tree {
	for range levels {
		t = element("a", t)
	}
	return t
}

func many(n int, t api.Tree) []api.Tree { return slices.Repeat([]api.Tree{t}, n) }

func textNode(s string, parent int) api.Node { return api.Node{Text: true, S: s, Parent: parent} }

func elementNode(name string, parent int, kids ...int) api.Node {
	return api.Node{S: name, Parent: parent, Kids: kids}
}

func docOf(nodes ...api.Node) api.Doc { return api.Doc{Nodes: nodes} }

// made is Make of a tree that must be good.
func made(t *testing.T, tr api.Tree) api.Doc {
	t.Helper()
	d, e := Make(tr)
	if e != api.OK {
		t.Fatalf("Make(%+v) is error %d", tr, e)
	}
	return d
}

// alike: a list without elements is like nil.
func alike(a, b api.Doc) bool {
	return slices.EqualFunc(a.Nodes, b.Nodes, func(p, q api.Node) bool {
		return p.Text == q.Text && p.S == q.S && p.Parent == q.Parent && slices.Equal(p.Attrs, q.Attrs) && slices.Equal(p.Kids, q.Kids)
	})
}

// copied is a document like d that shares no list with it.
func copied(d api.Doc) api.Doc {
	d.Nodes = slices.Clone(d.Nodes)
	for i := range d.Nodes {
		d.Nodes[i].Attrs = slices.Clone(d.Nodes[i].Attrs)
		d.Nodes[i].Kids = slices.Clone(d.Nodes[i].Kids)
	}
	return d
}

// full: all of its levels, attributes and both kinds.
// <a p="1" q="">p<b><c r="&lt;"/>q</b><d>r</d><e/></a>
func full() (api.Tree, api.Doc) {
	pq := []api.Attr{{Name: "p", Value: "1"}, {Name: "q"}}
	r := []api.Attr{{Name: "r", Value: "<"}}
	t := withAttrs(element("a",
		text("p"),
		element("b", withAttrs(element("c"), r...), text("q")),
		element("d", text("r")),
		element("e"),
	), pq...)
	return t, docOf(
		api.Node{S: "a", Attrs: pq, Parent: -1, Kids: []int{1, 2, 5, 7}},
		textNode("p", 0),
		elementNode("b", 0, 3, 4),
		api.Node{S: "c", Attrs: r, Parent: 2},
		textNode("q", 2),
		elementNode("d", 0, 6),
		textNode("r", 5),
		elementNode("e", 0),
	)
}

// P3.1

func TestMake(t *testing.T) {
	fullTree, fullDoc := full()
	for _, c := range []struct {
		tree api.Tree
		want api.Doc
	}{
		{element("a"), docOf(elementNode("a", -1))},
		{api.Tree{S: "a", Attrs: []api.Attr{}, Kids: []api.Tree{}}, docOf(elementNode("a", -1))},
		{element("a", text("x")), docOf(elementNode("a", -1, 1), textNode("x", 0))},
		{element("a", element("a"), element("a")), docOf(elementNode("a", -1, 1, 2), elementNode("a", 0), elementNode("a", 0))},
		{element("a", element("b", element("c")), element("d")), docOf(elementNode("a", -1, 1, 3), elementNode("b", 0, 2), elementNode("c", 1), elementNode("d", 0))},
		{element("a", element("b"), element("c", element("d"))), docOf(elementNode("a", -1, 1, 2), elementNode("b", 0), elementNode("c", 0, 3), elementNode("d", 2))},
		{chain(3, text("x")), docOf(elementNode("a", -1, 1), elementNode("a", 0, 2), elementNode("a", 1, 3), textNode("x", 2))},
		{fullTree, fullDoc},
	} {
		if got, e := Make(c.tree); e != api.OK || !alike(got, c.want) {
			t.Errorf("Make(%+v) is %+v, %d, not %+v", c.tree, got, e, c.want)
		}
	}
}

func TestMakeAtTheLimits(t *testing.T) {
	wide := made(t, element("a", many(api.MaxNodes-1, element("b"))...))
	if len(wide.Nodes) != api.MaxNodes || !Good(wide) {
		t.Errorf("%d nodes of a wide tree", len(wide.Nodes))
	}
	for i, n := range wide.Nodes[0].Kids {
		if n != i+1 || wide.Nodes[n].Parent != 0 || wide.Nodes[n].S != "b" {
			t.Errorf("kid %d is %d, %+v", i, n, wide.Nodes[n])
		}
	}
	deep := made(t, chain(api.MaxDepth-1, text("x")))
	if len(deep.Nodes) != api.MaxDepth || !Good(deep) {
		t.Errorf("%d nodes of a deep tree", len(deep.Nodes))
	}
	for i, node := range deep.Nodes {
		if node.Parent != i-1 {
			t.Errorf("the parent of %d is %d", i, node.Parent)
		}
	}
}

// notGood: trees that are not good, by each rule once.
func notGood() []api.Tree {
	endless := element("a", element("b"))
	endless.Kids[0].Kids = endless.Kids
	return []api.Tree{
		{},
		text("x"),
		element(""),
		element("A"),
		element("abcdefghi"),
		element("a", element("B")),
		element("a", text("")),
		element("a", text("\t")),
		element("a", text(strings.Repeat("x", api.MaxText+1))),
		element("a", text("x"), text("y")),
		element("a", element("b", element("c"), text("x"), text("y"))),
		element("a", withAttrs(text("x"), api.Attr{Name: "b"})),
		element("a", api.Tree{Text: true, S: "x", Kids: []api.Tree{element("b")}}),
		withAttrs(element("a"), api.Attr{Name: "c"}, api.Attr{Name: "b"}),
		withAttrs(element("a"), api.Attr{Name: "b"}, api.Attr{Name: "b"}),
		withAttrs(element("a"), api.Attr{Name: "b", Value: "\x7f"}),
		withAttrs(element("a"), api.Attr{Name: "a"}, api.Attr{Name: "b"}, api.Attr{Name: "c"}, api.Attr{Name: "d"}, api.Attr{Name: "e"}),
		chain(api.MaxDepth, text("x")),
		element("a", many(api.MaxNodes, element("b"))...),
		chain(100000, text("x")),
		endless,
	}
}

func TestMakeOfTreesThatAreNotGood(t *testing.T) {
	for i, tr := range notGood() {
		if d, e := Make(tr); e != api.ErrForm || len(d.Nodes) != 0 {
			t.Errorf("Make of number %d is %+v, %d", i, d, e)
		}
	}
}

func TestGood(t *testing.T) {
	_, fullDoc := full()
	emptyLists := api.Node{S: "a", Attrs: []api.Attr{}, Parent: -1, Kids: []int{}}
	for _, d := range []api.Doc{
		docOf(elementNode("a", -1)),
		docOf(emptyLists),
		docOf(elementNode("a", -1, 1), api.Node{Text: true, S: "x", Attrs: []api.Attr{}, Kids: []int{}}),
		docOf(elementNode("a", -1, 1, 2, 3), textNode("x", 0), elementNode("b", 0), textNode("y", 0)),
		docOf(elementNode("a", -1, 1), elementNode("b", 0, 2), elementNode("c", 1)),
		fullDoc,
	} {
		if !Good(d) {
			t.Errorf("%+v is not good", d)
		}
	}
}

func TestGoodOfWrongNumbers(t *testing.T) {
	for _, c := range []struct {
		say string
		doc api.Doc
	}{
		{"nothing", api.Doc{}},
		{"a list of no nodes", api.Doc{Nodes: []api.Node{}}},
		{"a root with parent 0", docOf(elementNode("a", 0))},
		{"a root with parent -2", docOf(elementNode("a", -2))},
		{"a root with the least parent", docOf(elementNode("a", math.MinInt))},
		{"a root that is its own kid", docOf(elementNode("a", -1, 0))},
		{"a root that is its own kid and parent", docOf(elementNode("a", 0, 0))},
		{"a kid that is not there", docOf(elementNode("a", -1, 1))},
		{"a kid far away", docOf(elementNode("a", -1, math.MaxInt))},
		{"a kid -1", docOf(elementNode("a", -1, -1))},
		{"a kid that comes twice", docOf(elementNode("a", -1, 1, 1), elementNode("b", 0))},
		{"a node that is no kid", docOf(elementNode("a", -1), elementNode("b", 0))},
		{"a node that is no kid, behind one that is", docOf(elementNode("a", -1, 1), elementNode("b", 0), elementNode("c", 0))},
		{"a second root", docOf(elementNode("a", -1), elementNode("b", -1))},
		{"a kid whose parent is itself", docOf(elementNode("a", -1, 1), elementNode("b", 1))},
		{"a kid whose parent is none", docOf(elementNode("a", -1, 1), elementNode("b", -1))},
		{"a kid whose parent is not there", docOf(elementNode("a", -1, 1), elementNode("b", 2))},
		{"kids in another order", docOf(elementNode("a", -1, 2, 1), elementNode("b", 0), elementNode("c", 0))},
		{"kids ahead of those of the first kid", docOf(elementNode("a", -1, 1, 2), elementNode("b", 0, 3), elementNode("c", 0), elementNode("d", 1))},
		{"a kid of two", docOf(elementNode("a", -1, 1, 2), elementNode("b", 0, 2), elementNode("c", 1))},
		{"a kid of two, parent the first", docOf(elementNode("a", -1, 1, 2), elementNode("b", 0, 2), elementNode("c", 0))},
		{"a kid's parent one too far up", docOf(elementNode("a", -1, 1), elementNode("b", 0, 2), elementNode("c", 0))},
		{"two that are in one another", docOf(elementNode("a", -1), elementNode("b", 2, 2), elementNode("c", 1, 1))},
		{"a root that is a kid's kid", docOf(elementNode("a", 1, 1), elementNode("b", 0, 0))},
		{"very many kids that are not there", docOf(elementNode("a", -1, make([]int, 1000000)...))},
	} {
		if Good(c.doc) {
			t.Errorf("good: %s", c.say)
		}
	}
}

// byReading makes nodes of any tree that has an end, with a list of what is
// still to be read in the place of calls.
func byReading(t api.Tree) api.Doc {
	type waiting struct {
		tree   api.Tree
		parent int
	}
	var d api.Doc
	list := []waiting{{t, -1}}
	for len(list) > 0 {
		w := list[len(list)-1]
		list = list[:len(list)-1]
		n := len(d.Nodes)
		d.Nodes = append(d.Nodes, api.Node{Text: w.tree.Text, S: w.tree.S, Attrs: w.tree.Attrs, Parent: w.parent})
		if w.parent >= 0 {
			d.Nodes[w.parent].Kids = append(d.Nodes[w.parent].Kids, n)
		}
		for _, k := range slices.Backward(w.tree.Kids) {
			list = append(list, waiting{k, n})
		}
	}
	return d
}

func TestGoodOfTreesThatAreNotGood(t *testing.T) {
	trees := notGood()
	for i, tr := range trees[:len(trees)-1] {
		d := byReading(tr)
		if Good(d) {
			t.Errorf("the document of number %d is good", i)
		}
		if got, e := Tree(d, 0); e != api.ErrForm || !reflect.ValueOf(got).IsZero() {
			t.Errorf("the tree of number %d is %+v, %d", i, got, e)
		}
		if End(d, 0) != 0 || In(d, 0, 0) || String(d, 0) != "" {
			t.Errorf("the document of number %d has an end, or text", i)
		}
	}
}

// A smaller stack shows with small documents what would happen to very deep ones.
func TestLongDocuments(t *testing.T) {
	defer debug.SetMaxStack(debug.SetMaxStack(4 << 20))
	deep := byReading(chain(300000, text("x")))
	wide := byReading(element("a", many(300000, element("b"))...))
	for _, d := range []api.Doc{deep, wide, {Nodes: make([]api.Node, 300000)}} {
		if _, e := Tree(d, 0); Good(d) || e != api.ErrForm || End(d, 0) != 0 || In(d, 0, 0) || String(d, 0) != "" {
			t.Error("a long document is good")
		}
	}
}

// byParents is the tree that the parents alone tell, and whether they tell one.
func byParents(d api.Doc) (api.Tree, bool) {
	trees := make([]api.Tree, len(d.Nodes))
	for i, node := range slices.Backward(d.Nodes) {
		trees[i].Text, trees[i].S, trees[i].Attrs = node.Text, node.S, node.Attrs
		if i == 0 {
			return trees[0], true
		}
		if node.Parent < 0 || node.Parent >= i {
			return api.Tree{}, false
		}
		kids := &trees[node.Parent].Kids
		*kids = slices.Insert(*kids, 0, trees[i])
	}
	return api.Tree{}, false
}

// isMade says the promise of Good as it stands: there is a tree whose
// document it is, and that can only be the one that its parents tell.
func isMade(d api.Doc) bool {
	t, ok := byParents(d)
	return ok && tree.Good(t) && alike(byReading(t), d)
}

func TestGoodOfAllSmallDocuments(t *testing.T) {
	lists := [][]int{nil}
	for n := range 4 {
		lists = append(lists, []int{n})
		for m := range 4 {
			lists = append(lists, []int{n, m})
		}
	}
	var nodes []api.Node
	for _, kids := range lists {
		for parent := -1; parent < 2; parent++ {
			nodes = append(nodes, elementNode("a", parent, kids...), api.Node{Text: true, S: "x", Parent: parent, Kids: kids})
		}
	}
	good := 0
	var all func(d api.Doc)
	all = func(d api.Doc) {
		if Good(d) {
			good++
			if !isMade(d) {
				t.Errorf("%+v is good", d)
			}
		}
		if len(d.Nodes) == 3 {
			return
		}
		for _, node := range nodes {
			all(docOf(append(slices.Clip(d.Nodes), node)...))
		}
	}
	all(api.Doc{})
	// a; a with an a or a text; a with two kids, not both texts, or with one of the two before.
	if want := 1 + 2 + 3 + 2; good != want {
		t.Errorf("%d are good, not %d", good, want)
	}
}

// randomTree is a right element, at most depth deep.
func randomTree(random *rand.Rand, depth int) api.Tree {
	t := element(string("abz"[random.Intn(3)]))
	for _, name := range []string{"a", "b"} {
		if random.Intn(3) == 0 {
			t.Attrs = append(t.Attrs, api.Attr{Name: name, Value: "v"})
		}
	}
	for range random.Intn(5) {
		if depth > 1 && random.Intn(2) == 0 {
			t.Kids = append(t.Kids, randomTree(random, depth-1))
		} else if depth > 1 && (len(t.Kids) == 0 || !t.Kids[len(t.Kids)-1].Text) {
			t.Kids = append(t.Kids, text(string("xyz"[random.Intn(3)])))
		}
	}
	return t
}

func spoilOnce(random *rand.Rand, d *api.Doc) {
	n := random.Intn(len(d.Nodes))
	node := &d.Nodes[n]
	number := random.Intn(len(d.Nodes)+2) - 1
	switch random.Intn(8) {
	case 0:
		node.Parent = number
	case 1:
		node.Kids = append(node.Kids, number)
	case 2:
		if len(node.Kids) > 0 {
			node.Kids[random.Intn(len(node.Kids))] = number
		}
	case 3:
		if len(node.Kids) > 0 {
			node.Kids = node.Kids[1:]
		}
	case 4:
		node.Text = !node.Text
	case 5:
		node.S = []string{"", "a", "A", "x y"}[random.Intn(4)]
	case 6:
		node.Attrs = append(node.Attrs, api.Attr{Name: string("bcd"[random.Intn(3)])})
	case 7:
		other := random.Intn(len(d.Nodes))
		d.Nodes[n], d.Nodes[other] = d.Nodes[other], d.Nodes[n]
	}
}

func TestSpoiltDocuments(t *testing.T) {
	random := rand.New(rand.NewSource(3))
	good, bad := 0, 0
	for range 60000 {
		tr := randomTree(random, 1+random.Intn(4))
		if !tree.Good(tr) {
			continue
		}
		d := made(t, tr)
		for range 1 + random.Intn(3) {
			spoilOnce(random, &d)
		}
		want := isMade(d)
		if Good(d) != want {
			t.Fatalf("Good(%+v) is not %t", d, want)
		}
		if want {
			good++
		} else {
			bad++
		}
	}
	if good < 5000 || bad < 5000 {
		t.Errorf("only %d are good, or only %d not", good, bad)
	}
}

// P3.2

func TestTree(t *testing.T) {
	fullTree, d := full()
	for n, want := range []api.Tree{
		fullTree,
		fullTree.Kids[0],
		fullTree.Kids[1],
		fullTree.Kids[1].Kids[0],
		fullTree.Kids[1].Kids[1],
		fullTree.Kids[2],
		fullTree.Kids[2].Kids[0],
		fullTree.Kids[3],
	} {
		if got, e := Tree(d, n); e != api.OK || !tree.Same(got, want) {
			t.Errorf("Tree at %d is %+v, %d, not %+v", n, got, e, want)
		}
	}
}

func TestTreeOfNoNode(t *testing.T) {
	_, d := full()
	for _, n := range []int{-1, -2, 8, 9, 80, math.MinInt, math.MaxInt} {
		if got, e := Tree(d, n); e != api.ErrNone || !reflect.ValueOf(got).IsZero() {
			t.Errorf("Tree at %d is %+v, %d", n, got, e)
		}
	}
}

// badDocs: some that are not good, with nodes by whose numbers one might be
// led astray.
func badDocs() []api.Doc {
	return []api.Doc{
		{},
		docOf(elementNode("a", 0)),
		docOf(elementNode("a", -1, 0)),
		docOf(elementNode("a", -1, -1)),
		docOf(elementNode("a", -1, 7)),
		docOf(elementNode("a", 1, 1), elementNode("b", 0, 0)),
		docOf(elementNode("a", -1, 2, 1), textNode("x", 0), elementNode("b", 0)),
		docOf(elementNode("a", -1, 1), textNode("x", 0), textNode("y", 0)),
		docOf(elementNode("a", -1, 1, 2), textNode("x", 0), textNode("y", 0)),
		docOf(elementNode("A", -1, 1), textNode("x", 0)),
		docOf(textNode("x", -1)),
	}
}

func TestDocumentsThatAreNotGood(t *testing.T) {
	for _, d := range badDocs() {
		for _, n := range []int{math.MinInt, -1, 0, 1, 2, 3, 7, math.MaxInt} {
			if got, e := Tree(d, n); e != api.ErrForm || !reflect.ValueOf(got).IsZero() {
				t.Errorf("Tree(%+v, %d) is %+v, %d", d, n, got, e)
			}
			if got := End(d, n); got != 0 {
				t.Errorf("End(%+v, %d) is %d", d, n, got)
			}
			if got := String(d, n); got != "" {
				t.Errorf("String(%+v, %d) is %q", d, n, got)
			}
			for _, m := range []int{math.MinInt, -1, 0, 1, 2, 3, 7, math.MaxInt} {
				if In(d, n, m) {
					t.Errorf("In(%+v, %d, %d)", d, n, m)
				}
			}
		}
	}
}

// P3.3

func TestEnd(t *testing.T) {
	_, d := full()
	for n, want := range []int{8, 2, 5, 4, 5, 7, 7, 8} {
		if got := End(d, n); got != want {
			t.Errorf("End of %d is %d, not %d", n, got, want)
		}
	}
	for _, n := range []int{-1, -2, 8, 9, 80, math.MinInt, math.MaxInt} {
		if got := End(d, n); got != 0 {
			t.Errorf("End of %d is %d", n, got)
		}
	}
}

func TestIn(t *testing.T) {
	_, d := full()
	in := [][]int{
		{0, 1, 2, 3, 4, 5, 6, 7},
		{1},
		{2, 3, 4},
		{3},
		{4},
		{5, 6},
		{6},
		{7},
	}
	numbers := []int{math.MinInt, math.MinInt + 1, -2, -1, 0, 1, 2, 3, 4, 5, 6, 7, 8, 9, 80, math.MaxInt}
	for _, m := range numbers {
		for _, n := range numbers {
			want := m >= 0 && m < len(in) && slices.Contains(in[m], n)
			if In(d, n, m) != want {
				t.Errorf("In(%d, %d) is not %t", n, m, want)
			}
		}
	}
}

func TestString(t *testing.T) {
	_, d := full()
	for n, want := range []string{"pqr", "p", "q", "", "q", "r", "r", ""} {
		if got := String(d, n); got != want {
			t.Errorf("String of %d is %q, not %q", n, got, want)
		}
	}
	for _, n := range []int{-1, -2, 8, 9, 80, math.MinInt, math.MaxInt} {
		if got := String(d, n); got != "" {
			t.Errorf("String of %d is %q", n, got)
		}
	}
	long := strings.Repeat("x", api.MaxText)
	longest := made(t, element("a", slices.Repeat([]api.Tree{text(long), element("b")}, 39)...))
	if got := String(longest, 0); got != strings.Repeat(long, 39) {
		t.Errorf("the longest String is %q", got)
	}
}

// parentsIn is In by way of the parents.
func parentsIn(d api.Doc, n, m int) bool {
	for n >= 0 && n != m {
		n = d.Nodes[n].Parent
	}
	return n == m
}

func textIn(t api.Tree) string {
	if t.Text {
		return t.S
	}
	all := ""
	for _, k := range t.Kids {
		all += textIn(k)
	}
	return all
}

// P3.1 to P3.3, held against one another and against second ways.
func TestRandomDocuments(t *testing.T) {
	random := rand.New(rand.NewSource(1))
	for range 500 {
		tr := randomTree(random, 1+random.Intn(api.MaxDepth))
		if !tree.Good(tr) {
			if d, e := Make(tr); e != api.ErrForm || len(d.Nodes) != 0 {
				t.Errorf("Make(%+v) is %+v, %d", tr, d, e)
			}
			continue
		}
		d := made(t, tr)
		if !Good(d) || !alike(d, byReading(tr)) {
			t.Fatalf("Make(%+v) is %+v", tr, d)
		}
		if got, e := Tree(d, 0); e != api.OK || !tree.Same(got, tr) {
			t.Fatalf("Tree(Make(%+v)) is %+v, %d", tr, got, e)
		}
		for m := range d.Nodes {
			at, e := Tree(d, m)
			if _, count := tree.Size(at); e != api.OK || End(d, m) != m+count {
				t.Errorf("End(%+v, %d) is %d", d, m, End(d, m))
			}
			if got := String(d, m); got != textIn(at) {
				t.Errorf("String(%+v, %d) is %q", d, m, got)
			}
			for n := range d.Nodes {
				if want := parentsIn(d, n, m); In(d, n, m) != want {
					t.Errorf("In(%+v, %d, %d) is not %t", d, n, m, want)
				}
			}
		}
		if t.Failed() {
			return
		}
	}
}

// What holds everywhere.

// withSpare is a document whose lists have spare room, with something in it.
func withSpare(d api.Doc) api.Doc {
	d = copied(d)
	for i := range d.Nodes {
		node := &d.Nodes[i]
		node.Attrs = append(node.Attrs, api.Attr{Name: "spare"})[:len(node.Attrs)]
		node.Kids = append(node.Kids, 99)[:len(node.Kids)]
	}
	d.Nodes = append(d.Nodes, elementNode("spare", 5))[:len(d.Nodes)]
	return d
}

func spareStays(d api.Doc) bool {
	for _, node := range d.Nodes {
		if node.Attrs[:len(node.Attrs)+1][len(node.Attrs)].Name != "spare" || node.Kids[:len(node.Kids)+1][len(node.Kids)] != 99 {
			return false
		}
	}
	return d.Nodes[:len(d.Nodes)+1][len(d.Nodes)].S == "spare"
}

// spoilTree writes into all lists of a tree and into their spare room.
func spoilTree(t api.Tree) {
	for i := range t.Kids {
		spoilTree(t.Kids[i])
	}
	clear(t.Kids[:cap(t.Kids)])
	clear(t.Attrs[:cap(t.Attrs)])
}

func TestDocumentsHandedInStay(t *testing.T) {
	_, want := full()
	d := withSpare(want)
	for n := -1; n <= len(d.Nodes); n++ {
		Good(d)
		End(d, n)
		In(d, n, 0)
		String(d, n)
		if got, e := Tree(d, n); e == api.OK {
			spoilTree(got)
		}
	}
	if !alike(d, want) || !spareStays(d) {
		t.Errorf("the document is now %+v", d)
	}
}

func TestTreesHandedInStay(t *testing.T) {
	build := func() api.Tree {
		attrs := []api.Attr{{Name: "b", Value: "<"}, {Name: "c"}, {Name: "spare"}}
		kids := []api.Tree{element("d"), withAttrs(element("e", text("x")), attrs[:1:1]...), text("&"), element("spare")}
		return api.Tree{S: "a", Attrs: attrs[:2], Kids: kids[:3]}
	}
	tr, want := build(), build()
	d := made(t, tr)
	for _, node := range d.Nodes {
		clear(node.Attrs[:cap(node.Attrs)])
		clear(node.Kids[:cap(node.Kids)])
	}
	if !reflect.DeepEqual(tr, want) || !reflect.DeepEqual(tr.Attrs[:3], want.Attrs[:3]) || !reflect.DeepEqual(tr.Kids[:4], want.Kids[:4]) {
		t.Errorf("the tree is now %+v", tr)
	}
}

// No two lists of an answer share memory: whoever writes into one of them, or
// lengthens it, leaves the others as they are.
func TestListsOfAnAnswerAreApart(t *testing.T) {
	fullTree, fullDoc := full()
	for i := range fullDoc.Nodes {
		d, want := made(t, fullTree), copied(fullDoc)
		node := &d.Nodes[i]
		clear(node.Kids[:cap(node.Kids)])
		clear(node.Attrs[:cap(node.Attrs)])
		node.Kids, node.Attrs = want.Nodes[i].Kids, want.Nodes[i].Attrs
		if !alike(d, want) {
			t.Errorf("spoilt at %d: %+v", i, d)
		}
	}
	got, _ := Tree(fullDoc, 0)
	spoilTree(got.Kids[1])
	got.Kids[1] = fullTree.Kids[1]
	if !tree.Same(got, fullTree) {
		t.Errorf("spoilt: %+v", got)
	}
}

func TestAnswersHangOnArgumentsAlone(t *testing.T) {
	fullTree, fullDoc := full()
	for range 3 {
		if d := made(t, fullTree); !alike(d, fullDoc) || !Good(d) || String(d, 0) != "pqr" {
			t.Errorf("Make is %+v", d)
		}
		if Good(api.Doc{}) {
			t.Error("nothing is good")
		}
	}
}
