package change

import (
	"math"
	"math/rand"
	"slices"
	"strings"
	"testing"

	"topiary/api"
	"topiary/doc"
	"topiary/mark"
	"topiary/tree"
)

const (
	leastKind = api.First
	mostKind  = api.Drop
)

// sample: a is 0, p 1, b 2, c 3, q 4, r 5.
const sample = `<a>p<b k="1"><c/>q</b>r</a>`

func text(s string) api.Tree { return api.Tree{Text: true, S: s} }

func element(name string, kids ...api.Tree) api.Tree { return api.Tree{S: name, Kids: kids} }

func chain(levels int, t api.Tree) api.Tree {
	for range levels {
		t = element("a", t)
	}
	return t
}

func many(n int, t api.Tree) []api.Tree { return slices.Repeat([]api.Tree{t}, n) }

func ops(l ...api.Op) []api.Op { return l }

// put is a change with Content, told as marked text that must tell some.
func put(kind, target int, content string) api.Op {
	l, e := mark.Content(content)
	if e != api.OK {
		panic("no content: " + content)
	}
	return api.Op{Kind: kind, Target: target, Content: l}
}

func first(target int, content string) api.Op  { return put(api.First, target, content) }
func last(target int, content string) api.Op   { return put(api.Last, target, content) }
func before(target int, content string) api.Op { return put(api.Before, target, content) }
func after(target int, content string) api.Op  { return put(api.After, target, content) }
func replace(target int, content string) api.Op {
	return put(api.Replace, target, content)
}
func remove(target int) api.Op { return api.Op{Kind: api.Delete, Target: target} }
func value(target int, s string) api.Op {
	return api.Op{Kind: api.Value, Target: target, S: s}
}
func rename(target int, name string) api.Op {
	return api.Op{Kind: api.Rename, Target: target, Name: name}
}
func set(target int, name, s string) api.Op {
	return api.Op{Kind: api.Set, Target: target, Name: name, S: s}
}
func drop(target int, name string) api.Op {
	return api.Op{Kind: api.Drop, Target: target, Name: name}
}

// made is the document of a tree that must be good.
func made(t *testing.T, tr api.Tree) api.Doc {
	t.Helper()
	d, e := doc.Make(tr)
	if e != api.OK {
		t.Fatalf("doc.Make(%+v) is error %d", tr, e)
	}
	return d
}

// read is the document of a text that must tell one.
func read(t *testing.T, s string) api.Doc {
	t.Helper()
	tr, e := mark.Parse(s)
	if e != api.OK {
		t.Fatalf("mark.Parse(%q) is error %d", s, e)
	}
	return made(t, tr)
}

// told is the text of a good document.
func told(d api.Doc) string {
	tr, e := doc.Tree(d, 0)
	if e != api.OK {
		return "no document"
	}
	s, e := mark.Print(tr)
	if e != api.OK {
		return "too long"
	}
	return s
}

// alike: a list without elements is like nil.
func alike(a, b api.Doc) bool {
	return slices.EqualFunc(a.Nodes, b.Nodes, func(p, q api.Node) bool {
		return p.Text == q.Text && p.S == q.S && p.Parent == q.Parent && slices.Equal(p.Attrs, q.Attrs) && slices.Equal(p.Kids, q.Kids)
	})
}

// copied is a document like d that shares no list with it.
func copied(d api.Doc) api.Doc {
	d.Nodes = slices.Clone(d.Nodes)
	for i := range d.Nodes {
		d.Nodes[i].Attrs = slices.Clone(d.Nodes[i].Attrs)
		d.Nodes[i].Kids = slices.Clone(d.Nodes[i].Kids)
	}
	return d
}

// becomes holds Apply to a document, told as marked text.
func becomes(t *testing.T, source, want string, l ...api.Op) {
	t.Helper()
	d, e := Apply(read(t, source), l)
	if e != api.OK || told(d) != want || !doc.Good(d) {
		t.Errorf("Apply(%s, %+v) is %s, %d, not %s", source, l, told(d), e, want)
	}
}

// isRefused holds Apply to an error, and to the document as it was.
func isRefused(t *testing.T, d api.Doc, want api.Errno, l ...api.Op) {
	t.Helper()
	was := copied(d)
	if got, e := Apply(d, l); e != want || !alike(got, was) {
		t.Errorf("Apply of %d changes is %+v, %d, not %+v, %d", len(l), got, e, was, want)
	}
}

// notGood: documents that are not good.
func notGood() []api.Doc {
	node := func(name string, parent int, kids ...int) api.Node {
		return api.Node{S: name, Parent: parent, Kids: kids}
	}
	return []api.Doc{
		{},
		{Nodes: []api.Node{}},
		{Nodes: []api.Node{{Text: true, S: "x", Parent: -1}}},
		{Nodes: []api.Node{node("A", -1)}},
		{Nodes: []api.Node{node("a", 0)}},
		{Nodes: []api.Node{node("a", -1, 0)}},
		{Nodes: []api.Node{node("a", -1, 1)}},
		{Nodes: []api.Node{node("a", -1, math.MaxInt)}},
		{Nodes: []api.Node{node("a", -1, math.MinInt)}},
		{Nodes: []api.Node{node("a", -1), node("b", 0)}},
		{Nodes: []api.Node{node("a", -1, 2, 1), node("b", 0), node("c", 0)}},
		{Nodes: []api.Node{node("a", 1, 1), node("b", 0, 0)}},
		{Nodes: []api.Node{node("a", -1, 1, 2), {Text: true, S: "x"}, {Text: true, S: "y"}}},
		{Nodes: []api.Node{{S: "a", Parent: -1, Attrs: []api.Attr{{Name: "c"}, {Name: "b"}}}}},
		{Nodes: make([]api.Node, 100000)},
	}
}

// noContent: trees that are not Content, by each rule once.
func noContent() [][]api.Tree {
	endless := element("a", element("b"))
	endless.Kids[0].Kids = endless.Kids
	return [][]api.Tree{
		{{}},
		{text("")},
		{text("\t")},
		{text(strings.Repeat("x", api.MaxText+1))},
		{text("x"), text("y")},
		{element("a", text("x"), text("y"))},
		{{Text: true, S: "x", Attrs: []api.Attr{{Name: "b"}}}},
		{{Text: true, S: "x", Kids: []api.Tree{element("b")}}},
		{element("")},
		{element("A")},
		{element("abcdefghi")},
		{element("a"), element("a", element("B"))},
		{{S: "a", Attrs: []api.Attr{{Name: "c"}, {Name: "b"}}}},
		{{S: "a", Attrs: make([]api.Attr, 100000)}},
		{chain(api.MaxDepth, text("x"))},
		{chain(100000, text("x"))},
		many(api.MaxNodes+1, element("a")),
		many(2, element("a", many(api.MaxNodes/2, element("a"))...)),
		{endless},
	}
}

// P5.1

// sampleOps: a good change of each kind, of an element that is not the root.
func sampleOps() []api.Op {
	return ops(
		first(2, "x<y/>"), last(2, "x<y/>"), before(2, "x<y/>"), after(2, "x<y/>"), remove(2),
		replace(2, "x<y/>"), value(2, "x"), rename(2, "x"), set(2, "x", "y"), drop(2, "k"),
	)
}

func answers(t *testing.T, d api.Doc, want api.Errno, o api.Op) {
	t.Helper()
	if e := Good(d, o); e != want {
		t.Errorf("Good of %+v is %d, not %d", o, e, want)
	}
}

func TestGood(t *testing.T) {
	d := read(t, sample)
	for _, o := range sampleOps() {
		answers(t, d, api.OK, o)
		o.Target = 3
		answers(t, d, api.OK, o)
	}
	for _, o := range ops(
		first(0, "x"), last(0, "<y/>"), value(0, "x"), rename(0, "x"), set(0, "x", "y"), drop(0, "x"),
		before(1, "x"), after(4, "x"), remove(5), replace(1, "x"), value(4, "x"),
		first(2, ""), last(2, ""), before(2, ""), after(2, ""), replace(2, ""),
		value(0, ""), value(2, ""), value(1, ""), value(2, "<&\n>\""), value(2, strings.Repeat("~", api.MaxText)),
		set(2, "k", ""), set(2, "abcdefgh", strings.Repeat("~", api.MaxText)), drop(2, "abcdefgh"), rename(2, "abcdefgh"), rename(2, "b"),
		api.Op{Kind: api.Delete, Target: 1, Content: []api.Tree{}},
		api.Op{Kind: api.Last, Target: 0, Content: many(api.MaxNodes, element("a"))},
		api.Op{Kind: api.Last, Target: 0, Content: []api.Tree{chain(api.MaxDepth-1, text("x"))}},
	) {
		answers(t, d, api.OK, o)
	}
}

func TestGoodOfWrongDocuments(t *testing.T) {
	for _, d := range notGood() {
		for _, o := range sampleOps() {
			answers(t, d, api.ErrForm, o)
			o.Target = 0
			answers(t, d, api.ErrForm, o)
		}
		answers(t, d, api.ErrForm, api.Op{})
		answers(t, d, api.ErrForm, api.Op{Kind: 11, Target: -1})
	}
}

func TestGoodOfNoKind(t *testing.T) {
	d := read(t, sample)
	for _, kind := range []int{math.MinInt, -1, 0, 11, 12, math.MaxInt} {
		for _, target := range []int{-1, 0, 1, 2, 6} {
			answers(t, d, api.ErrKind, api.Op{Kind: kind, Target: target})
			answers(t, d, api.ErrKind, api.Op{Kind: kind, Target: target, Content: []api.Tree{{}}, Name: "A", S: "\t"})
		}
	}
}

func TestGoodOfNoNode(t *testing.T) {
	d := read(t, sample)
	for _, target := range []int{math.MinInt, -2, -1, 6, 7, math.MaxInt} {
		for _, o := range sampleOps() {
			o.Target = target
			answers(t, d, api.ErrNone, o)
			o.Content, o.Name, o.S = []api.Tree{{}}, "A", "\t"
			answers(t, d, api.ErrNone, o)
		}
	}
}

func TestGoodOfWrongContent(t *testing.T) {
	d := read(t, sample)
	for _, o := range sampleOps() {
		// Of the root and of a text that is said ahead of what else is wrong.
		for _, target := range []int{0, 1, 2} {
			o.Target = target
			for _, o.Content = range noContent() {
				answers(t, d, api.ErrForm, o)
			}
		}
	}
}

func TestGoodOfContentThatIsNotForThat(t *testing.T) {
	d := read(t, sample)
	for _, o := range ops(remove(2), value(2, "x"), rename(2, "x"), set(2, "x", "y"), drop(2, "x")) {
		for _, target := range []int{0, 1, 2} {
			o.Target = target
			o.Content = []api.Tree{element("x")}
			answers(t, d, api.ErrForm, o)
			o.Content = []api.Tree{text("x")}
			answers(t, d, api.ErrForm, o)
		}
	}
}

func TestGoodOfWrongNames(t *testing.T) {
	d := read(t, sample)
	for _, o := range ops(rename(2, ""), set(2, "", "y"), drop(2, "")) {
		for _, target := range []int{0, 1, 2} {
			o.Target = target
			for _, o.Name = range []string{"", "A", "a1", "a ", "abcdefghi", "`", "{", "\xff", strings.Repeat("a", 100000)} {
				answers(t, d, api.ErrForm, o)
			}
		}
	}
	for _, o := range ops(first(2, "x"), last(2, "x"), before(2, "x"), after(2, "x"), remove(2), replace(2, "x"), value(2, "x")) {
		for _, target := range []int{0, 1, 2} {
			o.Target = target
			for _, o.Name = range []string{"x", "A", " ", strings.Repeat("a", 100000)} {
				answers(t, d, api.ErrForm, o)
			}
		}
	}
}

func TestGoodOfWrongS(t *testing.T) {
	d := read(t, sample)
	for _, o := range ops(value(2, ""), set(2, "x", "")) {
		for _, target := range []int{0, 1, 2} {
			o.Target = target
			for _, o.S = range []string{"\t", "\x00", "\x1f", "\x7f", "x\xff", "ä", strings.Repeat("x", api.MaxText+1), strings.Repeat("x", 100000)} {
				answers(t, d, api.ErrForm, o)
			}
		}
	}
	for _, o := range ops(first(2, "x"), last(2, "x"), before(2, "x"), after(2, "x"), remove(2), replace(2, "x"), rename(2, "x"), drop(2, "x")) {
		for _, target := range []int{0, 1, 2} {
			o.Target = target
			for _, o.S = range []string{"x", "\t", " ", strings.Repeat("x", 100000)} {
				answers(t, d, api.ErrForm, o)
			}
		}
	}
}

func TestGoodOfTheRootAndOfTexts(t *testing.T) {
	d := read(t, sample)
	ofRoot := []api.Errno{api.OK, api.OK, api.ErrRoot, api.ErrRoot, api.ErrRoot, api.ErrRoot, api.OK, api.OK, api.OK, api.OK}
	ofText := []api.Errno{api.ErrKind, api.ErrKind, api.OK, api.OK, api.OK, api.OK, api.OK, api.ErrKind, api.ErrKind, api.ErrKind}
	for i, o := range sampleOps() {
		o.Target = 0
		answers(t, d, ofRoot[i], o)
		answers(t, read(t, "<a/>"), ofRoot[i], o)
		for _, o.Target = range []int{1, 4, 5} {
			answers(t, d, ofText[i], o)
		}
	}
}

// P5.2

func TestAgainst(t *testing.T) {
	for _, c := range []struct {
		a, b api.Op
		want bool
	}{
		{replace(2, "x"), replace(2, "y"), true},
		{replace(2, "x"), replace(2, "x"), true},
		{replace(2, "x"), replace(3, "x"), false},
		{replace(2, "x"), remove(2), false},
		{value(2, "x"), value(2, "y"), true},
		{value(2, "x"), value(2, "x"), true},
		{value(2, "x"), value(1, "x"), false},
		{rename(2, "x"), rename(2, "y"), true},
		{rename(2, "x"), rename(2, "x"), true},
		{rename(2, "x"), rename(0, "x"), false},
		{set(2, "x", "1"), set(2, "x", "2"), true},
		{set(2, "x", "1"), set(2, "x", "1"), true},
		{set(2, "x", "1"), set(2, "y", "1"), false},
		{set(2, "x", "1"), set(0, "x", "1"), false},
		{set(2, "x", "1"), drop(2, "x"), true},
		{set(2, "x", "1"), drop(2, "y"), false},
		{set(2, "x", "1"), drop(0, "x"), false},
		{drop(2, "x"), drop(2, "x"), true},
		{drop(2, "x"), drop(2, "y"), false},
		{drop(2, "x"), drop(0, "x"), false},
		{set(2, "x", ""), rename(2, "x"), false},
		{drop(2, "x"), rename(2, "x"), false},
		{remove(2), remove(2), false},
		{first(2, "x"), first(2, "x"), false},
		{last(2, "x"), last(2, "x"), false},
		{before(2, "x"), before(2, "x"), false},
		{after(2, "x"), after(2, "x"), false},
		{value(2, "x"), last(2, "x"), false},
		{value(2, "x"), replace(2, "x"), false},
		// Ones that are not good are held against one another, too.
		{value(-1, "x"), value(-1, "x"), true},
		{value(math.MinInt, "x"), value(math.MaxInt, "x"), false},
		{set(2, "A", "x"), drop(2, "A"), true},
		{set(2, "", "x"), drop(2, ""), true},
		{api.Op{}, api.Op{}, false},
		{api.Op{Kind: 11}, api.Op{Kind: 11}, false},
		{api.Op{Kind: -1}, api.Op{Kind: -1}, false},
	} {
		if Against(c.a, c.b) != c.want || Against(c.b, c.a) != c.want {
			t.Errorf("Against(%+v, %+v) is %t, and %t the other way round", c.a, c.b, Against(c.a, c.b), Against(c.b, c.a))
		}
	}
}

// groupOf is a number that two kinds have alike if they may go against one
// another, and whether they do so by name; 0, if they never do.
func groupOf(kind int) (int, bool) {
	groups := map[int]int{api.Replace: 1, api.Value: 2, api.Rename: 3, api.Set: 4, api.Drop: 4}
	return groups[kind], groups[kind] == 4
}

func TestAgainstOfAllKinds(t *testing.T) {
	var l []api.Op
	for kind := leastKind - 2; kind <= mostKind+2; kind++ {
		for _, target := range []int{-1, 0, 1} {
			for _, name := range []string{"", "x", "y"} {
				l = append(l, api.Op{Kind: kind, Target: target, Name: name})
			}
		}
	}
	for _, a := range l {
		for _, b := range l {
			groupA, byName := groupOf(a.Kind)
			groupB, _ := groupOf(b.Kind)
			want := groupA != 0 && groupA == groupB && a.Target == b.Target && (!byName || a.Name == b.Name)
			if Against(a, b) != want {
				t.Errorf("Against(%+v, %+v) is not %t", a, b, want)
			}
		}
	}
}

// P5.3

func checks(t *testing.T, d api.Doc, want api.Errno, l ...api.Op) {
	t.Helper()
	if e := Check(d, l); e != want {
		t.Errorf("Check of %+v is %d, not %d", l, e, want)
	}
	if want != api.OK {
		isRefused(t, d, want, l...)
	}
}

func TestCheck(t *testing.T) {
	d := read(t, sample)
	checks(t, d, api.OK)
	checks(t, d, api.OK, sampleOps()...)
	checks(t, d, api.OK, remove(1), remove(1), remove(1))
	checks(t, d, api.OK, rename(2, "x"), rename(3, "x"), rename(0, "x"))
	checks(t, d, api.OK, set(2, "k", "1"), drop(2, "j"), set(2, "i", "1"), set(3, "k", "1"))
	checks(t, d, api.OK, replace(2, "x"), value(2, "x"), remove(2))
}

func TestCheckOfWrongDocuments(t *testing.T) {
	for _, d := range notGood() {
		checks(t, d, api.ErrForm)
		checks(t, d, api.ErrForm, remove(0))
		checks(t, d, api.ErrForm, rename(0, "x"), rename(0, "x"))
		checks(t, d, api.ErrForm, make([]api.Op, api.MaxOps+1)...)
	}
}

func TestCheckCountsChanges(t *testing.T) {
	d := read(t, sample)
	for n := range api.MaxOps + 1 {
		checks(t, d, api.OK, slices.Repeat(ops(remove(1)), n)...)
	}
	for _, n := range []int{api.MaxOps + 1, api.MaxOps + 2, 100000} {
		checks(t, d, api.ErrLong, slices.Repeat(ops(remove(1)), n)...)
		// That is said ahead of what is wrong with one, and with two.
		checks(t, d, api.ErrLong, slices.Repeat(ops(remove(0)), n)...)
		checks(t, d, api.ErrLong, slices.Repeat(ops(rename(2, "x")), n)...)
		checks(t, d, api.ErrLong, make([]api.Op, n)...)
	}
}

func TestCheckIsTheFirstError(t *testing.T) {
	d := read(t, sample)
	wrong := map[api.Errno]api.Op{
		api.ErrForm: rename(2, "A"),
		api.ErrNone: remove(6),
		api.ErrKind: first(1, "x"),
		api.ErrRoot: remove(0),
	}
	for want, o := range wrong {
		checks(t, d, want, o)
		checks(t, d, want, remove(1), o)
		// Two that go against one another are said later.
		checks(t, d, want, rename(2, "x"), rename(2, "y"), o)
		checks(t, d, want, o, rename(2, "x"), rename(2, "y"))
		for _, other := range wrong {
			checks(t, d, want, o, other)
			checks(t, d, want, remove(1), o, remove(1), other)
		}
		for at := range api.MaxOps {
			l := slices.Repeat(ops(remove(1)), api.MaxOps)
			l[at] = o
			checks(t, d, want, l...)
		}
	}
}

func TestCheckOfTwo(t *testing.T) {
	d := read(t, sample)
	checks(t, d, api.ErrTwice, rename(2, "x"), rename(2, "x"))
	checks(t, d, api.ErrTwice, value(1, "x"), value(1, "y"))
	checks(t, d, api.ErrTwice, replace(1, "x"), replace(1, ""))
	checks(t, d, api.ErrTwice, set(0, "k", "1"), drop(0, "k"))
	checks(t, d, api.ErrTwice, drop(0, "k"), drop(0, "k"))
	// Even where nothing is left of what they are said of.
	checks(t, d, api.ErrTwice, remove(2), rename(3, "x"), rename(3, "y"))
	checks(t, d, api.ErrTwice, value(0, "x"), replace(2, "x"), replace(2, "x"))
	for j := range api.MaxOps {
		for i := range j {
			l := slices.Repeat(ops(remove(1)), api.MaxOps)
			l[i], l[j] = set(2, "k", "2"), drop(2, "k")
			checks(t, d, api.ErrTwice, l...)
		}
	}
}

// P5.4

func TestApplyOfNothing(t *testing.T) {
	becomes(t, sample, sample)
	becomes(t, "<a/>", "<a/>")
	d := read(t, sample)
	if got, e := Apply(d, []api.Op{}); e != api.OK || !alike(got, d) {
		t.Errorf("Apply of no changes is %+v, %d", got, e)
	}
}

func TestApplyOfFirstAndLast(t *testing.T) {
	becomes(t, "<a/>", "<a><x/></a>", first(0, "<x/>"))
	becomes(t, "<a/>", "<a><x/></a>", last(0, "<x/>"))
	becomes(t, "<a><b/></a>", "<a><x/><y/><b/></a>", first(0, "<x/><y/>"))
	becomes(t, "<a><b/></a>", "<a><b/><x/><y/></a>", last(0, "<x/><y/>"))
	becomes(t, "<a><b/></a>", "<a><x/><y/><z/><b/></a>", first(0, "<x/>"), first(0, "<y/>"), first(0, "<z/>"))
	becomes(t, "<a><b/></a>", "<a><b/><x/><y/><z/></a>", last(0, "<x/>"), last(0, "<y/>"), last(0, "<z/>"))
	becomes(t, "<a/>", "<a><x/><y/><z/></a>", last(0, "<z/>"), first(0, "<x/>"), first(0, "<y/>"))
	becomes(t, "<a><b/></a>", "<a><b/></a>", first(0, ""), last(0, ""))
	becomes(t, "<a><b/><b/></a>", "<a><b><x/></b><b><y/></b></a>", first(2, "<y/>"), first(1, "<x/>"))
	becomes(t, "<a/>", `<a><x k="1">p<y>q</y></x>r</a>`, first(0, `<x k="1">p<y>q</y></x>r`))
}

func TestApplyOfBeforeAndAfter(t *testing.T) {
	becomes(t, "<a><b/></a>", "<a><x/><y/><b/></a>", before(1, "<x/><y/>"))
	becomes(t, "<a><b/></a>", "<a><b/><x/><y/></a>", after(1, "<x/><y/>"))
	becomes(t, "<a><b/></a>", "<a><x/><y/><z/><b/></a>", before(1, "<x/>"), before(1, "<y/>"), before(1, "<z/>"))
	becomes(t, "<a><b/></a>", "<a><b/><x/><y/><z/></a>", after(1, "<x/>"), after(1, "<y/>"), after(1, "<z/>"))
	becomes(t, "<a><b/></a>", "<a><b/></a>", before(1, ""), after(1, ""))
	becomes(t, "<a><b/><c/></a>", "<a><b/><x/><y/><c/></a>", before(2, "<y/>"), after(1, "<x/>"))
	becomes(t, "<a><b/><c/></a>", "<a><b/><x/><y/><c/></a>", after(1, "<x/>"), before(2, "<y/>"))
	becomes(t, "<a>p</a>", "<a><x/>p<y/></a>", after(1, "<y/>"), before(1, "<x/>"))
	becomes(t, "<a><b><c/></b></a>", "<a><b><x/><c/><y/></b></a>", after(2, "<y/>"), before(2, "<x/>"))
	// What is put in last stands behind what is put in after the last kid.
	becomes(t, "<a><b/></a>", "<a><v/><w/><b/><x/><y/></a>", first(0, "<v/>"), before(1, "<w/>"), after(1, "<x/>"), last(0, "<y/>"))
	becomes(t, "<a><b/></a>", "<a><v/><w/><b/><x/><y/></a>", last(0, "<y/>"), after(1, "<x/>"), before(1, "<w/>"), first(0, "<v/>"))
}

func TestApplyOfDeleteAndReplace(t *testing.T) {
	becomes(t, "<a><b/></a>", "<a/>", remove(1))
	becomes(t, "<a><b/></a>", "<a/>", remove(1), remove(1), remove(1))
	becomes(t, "<a><b>p<c/></b><d/></a>", "<a><d/></a>", remove(1))
	becomes(t, "<a><b/><c/><d/></a>", "<a><c/></a>", remove(3), remove(1))
	becomes(t, "<a>p</a>", "<a/>", remove(1))
	becomes(t, "<a><b/></a>", "<a>x<y/></a>", replace(1, "x<y/>"))
	becomes(t, "<a><b/></a>", "<a/>", replace(1, ""))
	becomes(t, "<a><b/></a>", "<a><x/></a>", replace(1, "<x/>"), remove(1))
	becomes(t, "<a><b/></a>", "<a><x/></a>", remove(1), replace(1, "<x/>"))
	becomes(t, "<a><b/></a>", "<a/>", remove(1), replace(1, ""))
	becomes(t, "<a><b/></a>", "<a><v/><w/></a>", remove(1), after(1, "<w/>"), before(1, "<v/>"))
	becomes(t, "<a><b/></a>", "<a><u/><v/><x/><w/></a>", before(1, "<u/>"), replace(1, "<x/>"), after(1, "<w/>"), before(1, "<v/>"))
	becomes(t, "<a><b/></a>", "<a><v/><x/><w/></a>", after(1, "<w/>"), before(1, "<v/>"), remove(1), replace(1, "<x/>"))
	becomes(t, "<a>p<b/>q</a>", "<a><x/><b/><y/></a>", replace(1, "<x/>"), replace(3, "<y/>"))
}

func TestApplyOfValue(t *testing.T) {
	becomes(t, "<a><b/>p</a>", "<a>x</a>", value(0, "x"))
	becomes(t, "<a/>", "<a>x</a>", value(0, "x"))
	becomes(t, "<a><b/>p</a>", "<a/>", value(0, ""))
	becomes(t, "<a>p</a>", "<a>x</a>", value(1, "x"))
	becomes(t, "<a>p</a>", "<a/>", value(1, ""))
	becomes(t, "<a>p</a>", "<a>&lt;&amp;&gt;\"\n</a>", value(1, "<&>\"\n"))
	becomes(t, "<a>p<b/></a>", "<a><b/></a>", value(1, ""))
	// A value is all that an element has.
	becomes(t, "<a><b/></a>", "<a>x</a>", value(0, "x"), last(0, "<c/>"), first(0, "<d/>"))
	becomes(t, "<a><b/></a>", "<a>x</a>", last(0, "<c/>"), first(0, "<d/>"), value(0, "x"))
	becomes(t, "<a><b/></a>", "<a>x</a>", value(0, "x"), before(1, "<c/>"), after(1, "<d/>"), remove(1), replace(1, "<e/>"))
	becomes(t, "<a><b/></a>", "<a>x</a>", remove(1), replace(1, "<e/>"), before(1, "<c/>"), after(1, "<d/>"), value(0, "x"))
	becomes(t, "<a><b/></a>", "<a/>", first(0, "<c/>"), before(1, "<d/>"), value(0, ""))
	becomes(t, "<a>p</a>", "<a>x</a>", value(0, "x"), value(1, "y"))
	becomes(t, "<a>p</a>", "<a>x</a>", value(1, "y"), value(0, "x"))
	becomes(t, "<a><b/></a>", "<a><u/><b>x</b><v/></a>", value(1, "x"), before(1, "<u/>"), after(1, "<v/>"))
	becomes(t, "<a>p</a>", "<a><u/>x<v/></a>", value(1, "x"), before(1, "<u/>"), after(1, "<v/>"))
	// The name and the attributes stay, and may be changed.
	becomes(t, `<a k="1"><b/></a>`, `<a k="1">x</a>`, value(0, "x"))
	becomes(t, `<a k="1"><b/></a>`, `<e j="2">x</e>`, value(0, "x"), rename(0, "e"), set(0, "j", "2"), drop(0, "k"))
	// One that is not there any more has none.
	becomes(t, "<a><b/>p</a>", "<a>p</a>", value(1, "x"), remove(1))
	becomes(t, "<a><b/>p</a>", "<a><b/></a>", value(2, "x"), remove(2))
	becomes(t, "<a><b/></a>", "<a><c/></a>", value(1, "x"), replace(1, "<c/>"))
}

func TestApplyOfRename(t *testing.T) {
	becomes(t, "<a/>", "<x/>", rename(0, "x"))
	becomes(t, "<a/>", "<a/>", rename(0, "a"))
	becomes(t, `<a>p<b k="1"><c/>q</b></a>`, `<a>p<x k="1"><c/>q</x></a>`, rename(2, "x"))
	becomes(t, "<a><b/><b/></a>", "<b><c/><a/></b>", rename(2, "a"), rename(0, "b"), rename(1, "c"))
	becomes(t, "<a><b/></a>", "<a/>", rename(1, "x"), remove(1))
	becomes(t, "<a><b/></a>", "<a><b/></a>", rename(1, "x"), replace(1, "<b/>"))
	// Names that are put in stay.
	becomes(t, "<a><b/></a>", "<a><b/><x><b/></x></a>", rename(1, "x"), before(1, "<b/>"), first(1, "<b/>"))
}

func TestApplyOfSetAndDrop(t *testing.T) {
	becomes(t, "<a/>", `<a k="1"/>`, set(0, "k", "1"))
	becomes(t, "<a/>", `<a k=""/>`, set(0, "k", ""))
	becomes(t, `<a k="1"/>`, `<a k="2"/>`, set(0, "k", "2"))
	becomes(t, `<a k="1"/>`, `<a k=""/>`, set(0, "k", ""))
	becomes(t, `<a k="1"/>`, `<a/>`, drop(0, "k"))
	becomes(t, `<a/>`, `<a/>`, drop(0, "k"))
	becomes(t, `<a k="1"/>`, `<a k="1"/>`, drop(0, "j"), drop(0, "l"), drop(0, "kk"))
	becomes(t, `<a j="1" l="2"/>`, `<a i="3" j="1" k="4" l="2"/>`, set(0, "k", "4"), set(0, "i", "3"))
	becomes(t, `<a j="1" l="2"/>`, `<a j="1" jj="3" l="2" m="4"/>`, set(0, "m", "4"), set(0, "jj", "3"))
	becomes(t, `<a i="1" j="2" k="3" l="4"/>`, `<a i="1" l="4"/>`, drop(0, "k"), drop(0, "j"))
	becomes(t, `<a i="1" j="2" k="3" l="4"/>`, `<a/>`, drop(0, "k"), drop(0, "j"), drop(0, "l"), drop(0, "i"))
	becomes(t, `<a><b k="1"/><b k="1"/></a>`, `<a><b k="2"/><b k="1"/></a>`, set(1, "k", "2"))
	becomes(t, `<a><b k="1"/></a>`, `<a/>`, set(1, "k", "2"), remove(1))
	// How many there are on the way does not matter.
	becomes(t, `<a i="1" j="2" k="3" l="4"/>`, `<a h="0" i="1" j="2" k="3"/>`, set(0, "h", "0"), drop(0, "l"))
	becomes(t, `<a i="1" j="2" k="3" l="4"/>`, `<a h="0" i="1" j="2" k="3"/>`, drop(0, "l"), set(0, "h", "0"))
}

// All is done to the nodes as they are: nothing that is put in, and no
// number that becomes another one, is meant by a change.
func TestApplyMeansTheNodesAsTheyAre(t *testing.T) {
	becomes(t, "<a><b/><c/></a>", "<a><x/><y/><c/></a>", before(1, "<x/><y/>"), remove(1))
	becomes(t, "<a><b/><c/></a>", "<a><b/><z/></a>", remove(2), after(2, "<z/>"))
	becomes(t, "<a><b/><c/><d/></a>", "<a><e/></a>", remove(1), remove(2), rename(3, "e"))
	becomes(t, "<a><b/><c/></a>", "<a><x/><b>y</b><c/></a>", first(0, "<x/>"), value(1, "y"))
	becomes(t, "<a><b><c/></b><d/></a>", "<a><d>y</d></a>", remove(1), value(3, "y"))
	// What is in a node that goes goes with it.
	becomes(t, "<a><b><c/></b></a>", "<a/>", remove(1), before(2, "<x/>"), after(2, "<y/>"), first(1, "z"), last(2, "z"))
	becomes(t, "<a><b><c/></b></a>", "<a><b/></a>", replace(1, "<b/>"), replace(2, "<x/>"), rename(2, "y"), set(2, "k", "1"), drop(1, "k"))
	becomes(t, "<a><b><c/></b></a>", "<a/>", remove(2), remove(1))
	becomes(t, "<a><b><c/></b></a>", "<a>x</a>", value(0, "x"), value(1, "y"), remove(2), before(2, "<x/>"))
}

func TestApplyOfTheExamplesOfTheWhole(t *testing.T) {
	becomes(t, "<a><b/>x</a>", "<a><c/>x</a>", before(1, "<c/>"), remove(1))
	becomes(t, "<a><b/>x</a>", "<a><c/>x</a>", remove(1), before(1, "<c/>"))
	becomes(t, "<a>x<b/>y</a>", "<a>xy</a>", remove(2))
	isRefused(t, read(t, "<a><b/></a>"), api.ErrTwice, rename(1, "c"), rename(1, "d"))
	becomes(t, "<a/>", "<a>x</a>", value(0, "x"), last(0, "<c/>"))
}

// P5.5

func TestApplyJoinsTexts(t *testing.T) {
	becomes(t, sample, "<a>pr</a>", remove(2))
	becomes(t, sample, "<a>pxr</a>", replace(2, "x"))
	becomes(t, sample, `<a>upv<b k="1"><c/>q</b>r</a>`, before(1, "u"), after(1, "v"))
	becomes(t, sample, `<a>uvp<b k="1"><c/>q</b>rwx</a>`, first(0, "u"), before(1, "v"), after(5, "w"), last(0, "x"))
	becomes(t, sample, `<a>p<b k="1">uq</b>r</a>`, replace(3, "u"))
	becomes(t, sample, `<a>p<b k="1"><c/></b>r</a>`, value(4, ""))
	becomes(t, sample, `<a>r</a>`, value(1, ""), remove(2))
	becomes(t, sample, `<a>vwr</a>`, value(1, ""), remove(2), before(1, "v"), after(1, "w"))
	becomes(t, "<a/>", "<a>xyz</a>", first(0, "x"), first(0, "y"), last(0, "z"))
	becomes(t, "<a/>", "<a>x<b/>yz<c/></a>", last(0, "x<b/>y"), last(0, "z<c/>"))
	becomes(t, "<a>p<b/>q<b/>r</a>", "<a>pqr</a>", remove(2), remove(4))
}

func TestApplyMakesTheDocument(t *testing.T) {
	d, e := Apply(read(t, sample), ops(remove(3), before(2, `<x k="1">y</x>`)))
	want := api.Doc{Nodes: []api.Node{
		{S: "a", Parent: -1, Kids: []int{1, 2, 4, 6}},
		{Text: true, S: "p"},
		{S: "x", Attrs: []api.Attr{{Name: "k", Value: "1"}}, Kids: []int{3}},
		{Text: true, S: "y", Parent: 2},
		{S: "b", Attrs: []api.Attr{{Name: "k", Value: "1"}}, Kids: []int{5}},
		{Text: true, S: "q", Parent: 4},
		{Text: true, S: "r"},
	}}
	if e != api.OK || !alike(d, want) {
		t.Errorf("Apply is %+v, %d", d, e)
	}
}

func TestApplyOfLongTexts(t *testing.T) {
	d := made(t, element("a", text(strings.Repeat("x", api.MaxText-2)), element("b"), text("y")))
	source := told(d)
	becomes(t, source, "<a>"+strings.Repeat("x", api.MaxText-2)+"y</a>", remove(2))
	becomes(t, source, "<a>"+strings.Repeat("x", api.MaxText-2)+"zy</a>", replace(2, "z"))
	isRefused(t, d, api.ErrLong, replace(2, "zz"))
	isRefused(t, d, api.ErrLong, remove(2), before(2, "z"), after(2, "z"))
	isRefused(t, d, api.ErrLong, before(1, "zz"), after(1, "z"))
	isRefused(t, d, api.ErrLong, first(0, "z"), before(1, "z"), after(1, "z"))
	// Too long for a while, or where it goes, is not too long.
	becomes(t, source, "<a>zzz<b/>y</a>", before(1, "zzz"), remove(1))
	becomes(t, source, "<a>z</a>", before(1, "zzz"), value(0, "z"))
}

func TestApplyOfManyAttributes(t *testing.T) {
	const source = `<a><b i="1" j="2" k="3"/></a>`
	becomes(t, source, `<a><b i="1" j="2" k="3" l="4"/></a>`, set(1, "l", "4"))
	isRefused(t, read(t, source), api.ErrLong, set(1, "l", "4"), set(1, "m", "5"))
	becomes(t, source, `<a><b i="1" j="2" l="4" m="5"/></a>`, set(1, "l", "4"), set(1, "m", "5"), drop(1, "k"))
	becomes(t, source, `<a/>`, set(1, "l", "4"), set(1, "m", "5"), remove(1))
}

func TestApplyOfDeepTrees(t *testing.T) {
	deepest := made(t, chain(api.MaxDepth-1, element("a")))
	end := api.MaxDepth - 1
	for _, o := range ops(first(end, "x"), last(end, "<x/>"), value(end, "x")) {
		isRefused(t, deepest, api.ErrLong, o)
		o.Target--
		if _, e := Apply(deepest, ops(o)); e != api.OK {
			t.Errorf("Apply of %+v is error %d", o, e)
		}
	}
	for depth := 1; depth <= api.MaxDepth; depth++ {
		o := api.Op{Kind: api.First, Target: 0, Content: []api.Tree{chain(depth-1, element("x"))}}
		if depth < api.MaxDepth {
			becomes(t, "<a/>", told(made(t, chain(depth, element("x")))), o)
		} else {
			isRefused(t, read(t, "<a/>"), api.ErrLong, o)
		}
	}
	if d, e := Apply(deepest, ops(value(end, ""))); e != api.OK || !alike(d, deepest) {
		t.Errorf("Apply of no value is %+v, %d", d, e)
	}
	becomes(t, "<a><b/></a>", "<a/>", remove(1), api.Op{Kind: api.First, Target: 1, Content: []api.Tree{chain(api.MaxDepth-1, element("x"))}})
}

func TestApplyOfManyNodes(t *testing.T) {
	most := made(t, element("a", many(api.MaxNodes-1, element("b"))...))
	isRefused(t, most, api.ErrLong, last(0, "x"))
	isRefused(t, most, api.ErrLong, value(1, "x"))
	isRefused(t, most, api.ErrLong, before(7, "<x/>"))
	isRefused(t, most, api.ErrLong, replace(7, "<x/><x/>"))
	isRefused(t, read(t, "<a/>"), api.ErrLong, api.Op{Kind: api.Last, Content: many(api.MaxNodes, element("x"))})
	for _, l := range [][]api.Op{
		nil,
		ops(last(0, "x"), remove(1)),
		ops(replace(7, "<x/>")),
		ops(last(0, "<x/><x/><x/>"), remove(1), remove(2), remove(3)),
		ops(value(1, "")),
		ops(api.Op{Kind: api.Last, Target: 1, Content: many(api.MaxNodes, element("x"))}, value(1, "x"), remove(2)),
	} {
		if d, e := Apply(most, l); e != api.OK || len(d.Nodes) != api.MaxNodes {
			t.Errorf("Apply of %+v is %d nodes, %d", l, len(d.Nodes), e)
		}
	}
	// Texts count when they are joined.
	texts := made(t, element("a", append(many(api.MaxNodes-2, element("b")), text("x"))...))
	if d, e := Apply(texts, ops(last(0, "y"), last(0, "z"), after(api.MaxNodes-1, "x"))); e != api.OK || doc.String(d, 0) != "xxyz" {
		t.Errorf("Apply is %+v, %d", d, e)
	}
	// All that may be put in at once is refused, too.
	l := slices.Repeat(ops(api.Op{Kind: api.First, Target: 2, Content: many(api.MaxNodes, element("x"))}), api.MaxOps)
	isRefused(t, most, api.ErrLong, l...)
	l[0] = remove(2)
	if d, e := Apply(most, l); e != api.OK || len(d.Nodes) != api.MaxNodes-1 {
		t.Errorf("Apply is %d nodes, %d", len(d.Nodes), e)
	}
}

// The second way: the words of P5.4, node by node from the root on.

func contents(l []api.Op, kind, n int) []api.Tree {
	var all []api.Tree
	for _, o := range l {
		if o.Kind == kind && o.Target == n {
			all = append(all, o.Content...)
		}
	}
	return all
}

// only is the first change of that kind of a node, if there is one.
func only(l []api.Op, kind, n int) (api.Op, bool) {
	for _, o := range l {
		if o.Kind == kind && o.Target == n {
			return o, true
		}
	}
	return api.Op{}, false
}

func attrsBehind(node api.Node, l []api.Op, n int) []api.Attr {
	values := map[string]string{}
	for _, a := range node.Attrs {
		values[a.Name] = a.Value
	}
	for _, o := range l {
		switch {
		case o.Target == n && o.Kind == api.Set:
			values[o.Name] = o.S
		case o.Target == n && o.Kind == api.Drop:
			delete(values, o.Name)
		}
	}
	var attrs []api.Attr
	for name, v := range values {
		attrs = append(attrs, api.Attr{Name: name, Value: v})
	}
	slices.SortFunc(attrs, func(a, b api.Attr) int { return strings.Compare(a.Name, b.Name) })
	return attrs
}

func nodeBehind(d api.Doc, l []api.Op, n int) api.Tree {
	node := d.Nodes[n]
	v, hasValue := only(l, api.Value, n)
	if node.Text {
		if hasValue {
			return text(v.S)
		}
		return text(node.S)
	}
	t := api.Tree{S: node.S, Attrs: attrsBehind(node, l, n)}
	if o, ok := only(l, api.Rename, n); ok {
		t.S = o.Name
	}
	if hasValue {
		t.Kids = []api.Tree{text(v.S)}
		return t
	}
	t.Kids = contents(l, api.First, n)
	for _, k := range node.Kids {
		t.Kids = append(t.Kids, placeBehind(d, l, k)...)
	}
	t.Kids = append(t.Kids, contents(l, api.Last, n)...)
	return t
}

func placeBehind(d api.Doc, l []api.Op, n int) []api.Tree {
	all := contents(l, api.Before, n)
	_, replaced := only(l, api.Replace, n)
	_, deleted := only(l, api.Delete, n)
	if replaced {
		all = append(all, contents(l, api.Replace, n)...)
	} else if !deleted {
		all = append(all, nodeBehind(d, l, n))
	}
	return append(all, contents(l, api.After, n)...)
}

func bySecondWay(d api.Doc, l []api.Op) (api.Doc, api.Errno) {
	if e := Check(d, l); e != api.OK {
		return d, e
	}
	behind, e := doc.Make(tree.Joined([]api.Tree{nodeBehind(d, l, 0)})[0])
	if e != api.OK {
		return d, api.ErrLong
	}
	return behind, api.OK
}

func randomAttrs(random *rand.Rand) []api.Attr {
	var l []api.Attr
	for _, name := range []string{"i", "j", "k", "l"} {
		if random.Intn(3) == 0 {
			l = append(l, api.Attr{Name: name, Value: name})
		}
	}
	return l
}

func randomTrees(random *rand.Rand, depth, most int) []api.Tree {
	var l []api.Tree
	for range random.Intn(most + 1) {
		if random.Intn(3) > 0 {
			t := api.Tree{S: string("abc"[random.Intn(3)]), Attrs: randomAttrs(random)}
			if depth > 1 {
				t.Kids = randomTrees(random, depth-1, most)
			}
			l = append(l, t)
		} else if len(l) == 0 || !l[len(l)-1].Text {
			l = append(l, text(strings.Repeat(string("xyz"[random.Intn(3)]), 1+random.Intn(4))))
		}
	}
	return l
}

// randomOp is a change that is good, but that it may not be for its target.
func randomOp(random *rand.Rand, nodes int) api.Op {
	o := api.Op{Kind: leastKind + random.Intn(mostKind), Target: random.Intn(nodes)}
	name := []string{"h", "i", "j", "k", "l", "m"}[random.Intn(6)]
	s := []string{"", "n", "nnn", strings.Repeat("n", api.MaxText-2)}[random.Intn(4)]
	switch o.Kind {
	case api.First, api.Last, api.Before, api.After, api.Replace:
		o.Content = randomTrees(random, 1+random.Intn(3), 3)
	case api.Value:
		o.S = s
	case api.Rename, api.Drop:
		o.Name = name
	case api.Set:
		o.Name, o.S = name, s
	}
	return o
}

// randomOps is changes that most often can be done all at once.
func randomOps(random *rand.Rand, d api.Doc) []api.Op {
	var l []api.Op
	for range random.Intn(api.MaxOps + 1) {
		o := randomOp(random, min(len(d.Nodes), 1+random.Intn(api.MaxNodes)))
		if random.Intn(50) == 0 || Check(d, append(l, o)) == api.OK {
			l = append(l, o)
		}
	}
	return l
}

func randomDoc(random *rand.Rand) api.Doc {
	for {
		t := api.Tree{S: "a", Attrs: randomAttrs(random), Kids: randomTrees(random, 1+random.Intn(api.MaxDepth-1), 5)}
		if d, e := doc.Make(t); e == api.OK {
			return d
		}
	}
}

func TestApplyByASecondWay(t *testing.T) {
	random := rand.New(rand.NewSource(1))
	count := map[api.Errno]int{}
	for range 20000 {
		d := randomDoc(random)
		l := randomOps(random, d)
		want, wantError := bySecondWay(d, l)
		got, e := Apply(d, l)
		if e != wantError || !alike(got, want) {
			t.Fatalf("Apply(%s, %+v) is %s, %d, not %s, %d", told(d), l, told(got), e, told(want), wantError)
		}
		if e != api.OK || !alike(got, d) {
			count[e]++
		}
	}
	if count[api.OK] < 5000 || count[api.ErrLong] < 200 || count[api.ErrTwice] < 50 || count[api.ErrRoot] < 50 || count[api.ErrKind] < 50 {
		t.Errorf("by error: %v", count)
	}
}

// Of one node all sets of kinds, in all their orders.
func TestApplyInAllOrders(t *testing.T) {
	const source = `<a>p<b k="1"><c/>q</b>r</a>`
	d := read(t, source)
	all := ops(first(2, "<f/>"), last(2, "<l/>"), before(2, "<m/>"), after(2, "<n/>"), remove(2), replace(2, "<o/>"), value(2, "v"), rename(2, "x"), set(2, "j", "y"), drop(2, "k"))
	var permute func(l, rest []api.Op, do func([]api.Op))
	permute = func(l, rest []api.Op, do func([]api.Op)) {
		if len(rest) == 0 {
			do(l)
		}
		for i, o := range rest {
			others := slices.Delete(slices.Clone(rest), i, i+1)
			permute(append(slices.Clone(l), o), others, do)
		}
	}
	for set := range 1 << len(all) {
		var chosen []api.Op
		for i, o := range all {
			if set&(1<<i) != 0 {
				chosen = append(chosen, o)
			}
		}
		if len(chosen) > 4 {
			continue
		}
		want, _ := bySecondWay(d, chosen)
		permute(nil, chosen, func(l []api.Op) {
			if got, e := Apply(d, l); e != api.OK || !alike(got, want) {
				t.Errorf("Apply(%s, %+v) is %s, %d, not %s", source, l, told(got), e, told(want))
			}
		})
	}
}

// Whichever is said first: changes may be said in any order, but for those
// with Content of one kind and one node.
func TestApplyWhicheverIsSaidFirst(t *testing.T) {
	random := rand.New(rand.NewSource(2))
	for range 5000 {
		d := randomDoc(random)
		l := randomOps(random, d)
		if Check(d, l) != api.OK {
			continue
		}
		want, wantError := Apply(d, l)
		for range 5 {
			mixed := slices.Clone(l)
			random.Shuffle(len(mixed), func(i, j int) { mixed[i], mixed[j] = mixed[j], mixed[i] })
			keepOrder(mixed, l)
			if got, e := Apply(d, mixed); e != wantError || !alike(got, want) {
				t.Fatalf("Apply(%s, %+v) is %s, %d, but of %+v %s, %d", told(d), l, told(want), wantError, mixed, told(got), e)
			}
		}
	}
}

// keepOrder puts those of one kind and one node into the order of l.
func keepOrder(mixed, l []api.Op) {
	type group struct{ kind, target int }
	next := map[group][]api.Op{}
	for _, o := range l {
		g := group{o.Kind, o.Target}
		next[g] = append(next[g], o)
	}
	for i, o := range mixed {
		g := group{o.Kind, o.Target}
		mixed[i] = next[g][0]
		next[g] = next[g][1:]
	}
}

// What holds everywhere.

// spare gives each list of a document and of its changes room behind it, with
// something in it.
func spare(d api.Doc, l []api.Op) (api.Doc, []api.Op) {
	d = copied(d)
	d.Nodes = append(d.Nodes, api.Node{S: "spare"})[:len(d.Nodes)]
	for i := range d.Nodes {
		node := &d.Nodes[i]
		node.Kids = append(node.Kids, 99, 99, 99)[:len(node.Kids)]
		node.Attrs = append(node.Attrs, api.Attr{Name: "spare"})[:len(node.Attrs)]
	}
	l = append(slices.Clone(l), rename(0, "spare"))[:len(l)]
	for i := range l {
		l[i].Content = spareTrees(l[i].Content)
	}
	return d, l
}

func spareTrees(l []api.Tree) []api.Tree {
	l = append(slices.Clone(l), text("spare"))[:len(l)]
	for i := range l {
		l[i].Attrs = append(slices.Clone(l[i].Attrs), api.Attr{Name: "spare"})[:len(l[i].Attrs)]
		l[i].Kids = spareTrees(l[i].Kids)
	}
	return l
}

func attrsSpared(l []api.Attr) bool { return l[:len(l)+1][len(l)].Name == "spare" }

func treesSpared(l []api.Tree) bool {
	for _, t := range l {
		if !attrsSpared(t.Attrs) || !treesSpared(t.Kids) {
			return false
		}
	}
	return l[:len(l)+1][len(l)].S == "spare"
}

func spared(d api.Doc, l []api.Op) bool {
	for _, node := range d.Nodes {
		if !attrsSpared(node.Attrs) || !slices.Equal(node.Kids[len(node.Kids):][:3], []int{99, 99, 99}) {
			return false
		}
	}
	for _, o := range l {
		if !treesSpared(o.Content) {
			return false
		}
	}
	return d.Nodes[:len(d.Nodes)+1][len(d.Nodes)].S == "spare" && l[:len(l)+1][len(l)].Name == "spare"
}

func sameOps(a, b []api.Op) bool {
	return slices.EqualFunc(a, b, func(p, q api.Op) bool {
		return p.Kind == q.Kind && p.Target == q.Target && p.Name == q.Name && p.S == q.S && slices.EqualFunc(p.Content, q.Content, tree.Same)
	})
}

func TestWhatIsHandedInStays(t *testing.T) {
	random := rand.New(rand.NewSource(3))
	for range 5000 {
		wasDoc := randomDoc(random)
		wasOps := randomOps(random, wasDoc)
		d, l := spare(wasDoc, wasOps)
		Check(d, l)
		for _, o := range l {
			Good(d, o)
		}
		got, e := Apply(d, l)
		if e == api.OK {
			spoil(got)
		}
		if !alike(d, wasDoc) || !sameOps(l, wasOps) || !spared(d, l) {
			t.Fatalf("%+v is now %+v; %+v is now %+v", wasDoc, d, wasOps, l)
		}
	}
}

// spoil writes over all that a document is made of: a document that changes
// were done to is new memory.
func spoil(d api.Doc) {
	for _, node := range d.Nodes {
		clear(node.Attrs[:cap(node.Attrs)])
		clear(node.Kids[:cap(node.Kids)])
	}
	clear(d.Nodes[:cap(d.Nodes)])
}

func TestApplyOfWrongDocumentsIsAsItWas(t *testing.T) {
	for _, d := range notGood() {
		isRefused(t, d, api.ErrForm)
		isRefused(t, d, api.ErrForm, value(0, "x"))
		isRefused(t, d, api.ErrForm, last(0, "x"), remove(1))
	}
}

func TestAnswersHangOnArgumentsAlone(t *testing.T) {
	d := read(t, sample)
	for range 3 {
		got, e := Apply(d, ops(remove(2), first(0, "<x/>"), set(0, "k", "1")))
		if e != api.OK || told(got) != `<a k="1"><x/>pr</a>` {
			t.Errorf("Apply is %s, %d", told(got), e)
		}
		spoil(got)
		isRefused(t, d, api.ErrRoot, remove(2), remove(0))
	}
}
