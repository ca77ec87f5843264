package store

import (
	"math"
	"slices"
	"strings"
	"testing"

	"topiary/api"
	"topiary/doc"
	"topiary/mark"
)

func load(lines ...string) api.Act { return api.Act{Kind: api.ActLoad, Lines: lines} }
func alter(lines ...string) api.Act {
	return api.Act{Kind: api.ActChange, Lines: lines}
}
func show() api.Act { return api.Act{Kind: api.ActShow} }

// told is the text of a good document, however long.
func told(d api.Doc) string {
	tr, e := doc.Tree(d, 0)
	if e != api.OK {
		return "no document"
	}
	s, e := mark.Print(tr)
	if e != api.OK {
		return "too long"
	}
	return s
}

// alike: a list without elements is like nil.
func alike(a, b api.Doc) bool {
	return slices.EqualFunc(a.Nodes, b.Nodes, func(p, q api.Node) bool {
		return p.Text == q.Text && p.S == q.S && p.Parent == q.Parent && slices.Equal(p.Attrs, q.Attrs) && slices.Equal(p.Kids, q.Kids)
	})
}

// spoil writes over all that a document is made of, the room behind its lists
// too.
func spoil(d api.Doc) {
	for _, node := range d.Nodes {
		clear(node.Attrs[:cap(node.Attrs)])
		clear(node.Kids[:cap(node.Kids)])
	}
	clear(d.Nodes[:cap(d.Nodes)])
}

// loaded is a new store with a document, told as marked text that must tell
// one.
func loaded(t *testing.T, source string) *Store {
	t.Helper()
	s := New()
	if r := s.Do(load(source)); r.Code != api.OK {
		t.Fatalf("%s can't be loaded: %+v", source, r)
	}
	return s
}

// replies holds Do to a reply.
func replies(t *testing.T, s *Store, a api.Act, want api.Reply) {
	t.Helper()
	if r := s.Do(a); r != want {
		t.Errorf("Do(%+v) is %+v, not %+v", a, r, want)
	}
}

// refuses holds Do to an error without anything else, and the store to its
// document.
func refuses(t *testing.T, s *Store, want api.Errno, a api.Act) {
	t.Helper()
	was := s.Doc()
	replies(t, s, a, api.Reply{Code: want})
	if now := s.Doc(); !alike(now, was) {
		t.Errorf("Do(%+v) made %+v of %+v", a, now, was)
	}
}

// stands holds a store to a document, both by Doc and by ActShow.
func stands(t *testing.T, s *Store, want string) {
	t.Helper()
	d := s.Doc()
	if told(d) != want || !doc.Good(d) {
		t.Errorf("the document is %s, not %s", told(d), want)
	}
	replies(t, s, show(), api.Reply{N: len(d.Nodes), Text: want})
}

// becomes holds changes by lines to what they make of a document, and to how
// many they are.
func becomes(t *testing.T, source, want string, n int, lines ...string) {
	t.Helper()
	s := loaded(t, source)
	replies(t, s, alter(lines...), api.Reply{N: n})
	stands(t, s, want)
}

// isRefused holds changes by lines to an error, and to none of them being
// done.
func isRefused(t *testing.T, source string, want api.Errno, lines ...string) {
	t.Helper()
	s := loaded(t, source)
	refuses(t, s, want, alter(lines...))
	stands(t, s, source)
}

// P6.2

func TestNewHasAnElementWithoutAnything(t *testing.T) {
	s := New()
	want := api.Doc{Nodes: []api.Node{{S: "doc", Parent: -1}}}
	if d := s.Doc(); !alike(d, want) || !doc.Good(d) {
		t.Errorf("Doc of a new store is %+v", d)
	}
	stands(t, s, "<doc/>")
}

func TestStoresAreApart(t *testing.T) {
	a, b := New(), New()
	replies(t, a, load("<a/>"), api.Reply{N: 1})
	stands(t, b, "<doc/>")
	replies(t, b, alter("last /doc x"), api.Reply{N: 1})
	stands(t, a, "<a/>")
	stands(t, New(), "<doc/>")
}

func TestDocIsAsItStands(t *testing.T) {
	s := New()
	for _, c := range []struct {
		act  api.Act
		want string
	}{
		{load(`<a k="1"><b/>x</a>`), `<a k="1"><b/>x</a>`},
		{load("<a>"), `<a k="1"><b/>x</a>`},
		{alter("delete /a/b"), `<a k="1">x</a>`},
		{alter("delete /a/b"), `<a k="1">x</a>`},
		{show(), `<a k="1">x</a>`},
		{api.Act{}, `<a k="1">x</a>`},
		{alter("drop /a k", "after /a/# <c/>"), "<a>x<c/></a>"},
	} {
		s.Do(c.act)
		if d := s.Doc(); told(d) != c.want {
			t.Errorf("Doc behind %+v is %s, not %s", c.act, told(d), c.want)
		}
	}
}

func TestDocIsTheCallers(t *testing.T) {
	for _, act := range []api.Act{
		show(),
		load(`<doc k="1">x<b j="2"><c/>y</b></doc>`),
		alter(`last /doc x<b j="2"/><c>y</c>`, "set /doc k=1"),
		alter(),
		alter("delete /doc"),
	} {
		s := New()
		s.Do(act)
		want := told(s.Doc())
		spoil(s.Doc())
		stands(t, s, want)
		d := s.Doc()
		replies(t, s, load("<other/>"), api.Reply{N: 1})
		if told(d) != want {
			t.Errorf("a document that was answered is now %s, not %s", told(d), want)
		}
	}
}

func TestNilStore(t *testing.T) {
	var s *Store
	if d := s.Doc(); len(d.Nodes) != 0 {
		t.Errorf("Doc of no store is %+v", d)
	}
	acts := []api.Act{
		{}, {Kind: 4}, {Kind: math.MinInt}, {Kind: math.MaxInt},
		show(), load(), load("<a/>"), load("<a>"), alter(), alter("delete /doc"), alter(make([]string, 7)...),
	}
	for range 2 * api.MaxActs {
		for _, a := range acts {
			replies(t, s, a, api.Reply{Code: api.ErrNone})
		}
	}
}

// What a store is that New did not make is not said, but that nothing panics.
func TestStoreThatNewDidNotMake(t *testing.T) {
	s := &Store{}
	s.Doc()
	for _, a := range []api.Act{show(), alter(), alter("value /doc x"), {}} {
		if r := s.Do(a); r.Code == api.OK {
			t.Errorf("Do(%+v) is %+v", a, r)
		}
	}
	replies(t, s, load("<a/>"), api.Reply{N: 1})
	stands(t, s, "<a/>")
}

// P6.3

func TestDoIsFull(t *testing.T) {
	for _, done := range []api.Act{
		show(), load("<doc/>"), load("<a>"), load(), alter(), alter("value /doc x"),
		alter("delete /doc"), alter("x"), alter(make([]string, 7)...), {}, {Kind: 9},
	} {
		s := New()
		want := s.Do(done)
		for range api.MaxActs - 2 {
			replies(t, s, done, want)
		}
		replies(t, s, load("<last><b/></last>"), api.Reply{N: 2})
		for _, a := range []api.Act{show(), load("<a/>"), load(), alter("value /last x"), alter(), {}, {Kind: 9}, done} {
			refuses(t, s, api.ErrFull, a)
		}
		if d := s.Doc(); told(d) != "<last><b/></last>" {
			t.Errorf("Doc of a full store is %s", told(d))
		}
	}
}

func TestDocIsNoAct(t *testing.T) {
	s := New()
	for range 2 * api.MaxActs {
		s.Doc()
	}
	stands(t, s, "<doc/>")
}

func TestDoOfNoKind(t *testing.T) {
	s := New()
	for _, kind := range []int{0, -1, 4, 5, 10, math.MinInt, math.MaxInt, 1 << 32, 1<<32 + api.ActShow} {
		refuses(t, s, api.ErrKind, api.Act{Kind: kind})
		refuses(t, s, api.ErrKind, api.Act{Kind: kind, Lines: []string{"<a/>"}})
	}
}

func TestLoad(t *testing.T) {
	s := New()
	for _, c := range []struct {
		line, want string
		n          int
	}{
		{"<a/>", "<a/>", 1},
		{"<a></a>", "<a/>", 1},
		{"<a><b/>x</a>", "<a><b/>x</a>", 3},
		{`<a  k="2" j="1"><b>x<c/>&lt;</b></a >`, `<a j="1" k="2"><b>x<c/>&lt;</b></a>`, 5},
		{"<a>x\ny</a>", "<a>x\ny</a>", 2},
		{"<a" + strings.Repeat(" ", api.MaxSource-4) + "/>", "<a/>", 1},
		{"<a>" + strings.Repeat("<b/>", api.MaxNodes-1) + "</a>", "<a>" + strings.Repeat("<b/>", api.MaxNodes-1) + "</a>", api.MaxNodes},
	} {
		replies(t, s, load(c.line), api.Reply{N: c.n})
		stands(t, s, c.want)
	}
}

func TestLoadRefuses(t *testing.T) {
	tooLong := "<a" + strings.Repeat(" ", api.MaxSource-3) + "/>"
	for _, c := range []struct {
		want  api.Errno
		lines []string
	}{
		{api.ErrForm, nil},
		{api.ErrForm, []string{}},
		{api.ErrForm, []string{"<a/>", "<b/>"}},
		{api.ErrForm, []string{"<a/>", ""}},
		{api.ErrForm, []string{"", "<a/>"}},
		{api.ErrForm, []string{"<a>", "</a>"}},
		{api.ErrForm, []string{tooLong, tooLong}},
		{api.ErrForm, make([]string, 1000)},
		{api.ErrForm, []string{""}},
		{api.ErrForm, []string{"x"}},
		{api.ErrForm, []string{"<a>"}},
		{api.ErrForm, []string{"<a/><b/>"}},
		{api.ErrForm, []string{" <a/>"}},
		{api.ErrForm, []string{"<a/>\n"}},
		{api.ErrForm, []string{"<a>" + strings.Repeat("<b/>", api.MaxNodes) + "</a>"}},
		{api.ErrForm, []string{strings.Repeat("<a>", api.MaxDepth+1) + strings.Repeat("</a>", api.MaxDepth+1)}},
		{api.ErrLong, []string{tooLong}},
		{api.ErrLong, []string{strings.Repeat("x", api.MaxSource+1)}},
	} {
		s := loaded(t, "<a>x</a>")
		refuses(t, s, c.want, api.Act{Kind: api.ActLoad, Lines: c.lines})
		stands(t, s, "<a>x</a>")
	}
}

func TestShow(t *testing.T) {
	s := loaded(t, `<a k="&quot;&lt;"><b/>x &amp; y</a>`)
	want := api.Reply{N: 3, Text: `<a k="&quot;&lt;"><b/>x &amp; y</a>`}
	replies(t, s, show(), want)
	replies(t, s, show(), want)
	replies(t, s, api.Act{Kind: api.ActShow, Lines: []string{"<b/>"}}, want)
	replies(t, s, api.Act{Kind: api.ActShow, Lines: make([]string, 100)}, want)
}

// A document that is as long as may be is told, one of a byte more is not; it
// stands all the same.
func TestShowOfLongDocuments(t *testing.T) {
	const piece = 4 + 5*api.MaxText
	block := "<b/>" + strings.Repeat("&amp;", api.MaxText)
	room := api.MaxSource - len("<a></a>")
	rest := room - room/piece*piece - len("<c/><c/>")
	filler := "<c/>" + strings.Repeat("x", rest) + "<c/>"
	nodes := 1 + 2*(room/piece) + 3

	s := loaded(t, "<a/>")
	half := room / piece / 2
	lines := []string{"last /a " + strings.Repeat(block, half), "last /a " + strings.Repeat(block, room/piece-half), "last /a " + filler}
	replies(t, s, alter(lines...), api.Reply{N: 3})
	r := s.Do(show())
	if r.Code != api.OK || r.N != nodes || len(r.Text) != api.MaxSource {
		t.Fatalf("ActShow is %d, %d, %d bytes", r.Code, r.N, len(r.Text))
	}

	replies(t, s, alter("rename /a/c[1] cc"), api.Reply{N: 1})
	refuses(t, s, api.ErrLong, show())
	if d := s.Doc(); len(d.Nodes) != nodes {
		t.Errorf("Doc has %d nodes", len(d.Nodes))
	}
	replies(t, s, alter("rename /a/cc c"), api.Reply{N: 1})
	replies(t, s, show(), r)
}

// P6.4

func TestChangeOfEachKind(t *testing.T) {
	const source = `<a>p<b k="1"><c/>q</b>r</a>`
	for _, c := range []struct{ line, want string }{
		{"first /a/b x<y/>", `<a>p<b k="1">x<y/><c/>q</b>r</a>`},
		{"last /a/b x<y/>", `<a>p<b k="1"><c/>qx<y/></b>r</a>`},
		{"before /a/b x<y/>", `<a>px<y/><b k="1"><c/>q</b>r</a>`},
		{"after /a/b x<y/>", `<a>p<b k="1"><c/>q</b>x<y/>r</a>`},
		{"delete /a/b", "<a>pr</a>"},
		{"replace /a/b x<y/>", "<a>px<y/>r</a>"},
		{"value /a/b x&lt;", `<a>p<b k="1">x&lt;</b>r</a>`},
		{"value /a/b ", `<a>p<b k="1"/>r</a>`},
		{"rename /a/b x", `<a>p<x k="1"><c/>q</x>r</a>`},
		{"set /a/b x=y=&amp;", `<a>p<b k="1" x="y=&amp;"><c/>q</b>r</a>`},
		{"set /a/b k=", `<a>p<b k=""><c/>q</b>r</a>`},
		{"drop /a/b k", "<a>p<b><c/>q</b>r</a>"},
		{"drop /a/b x", source},
		{"replace /a/b ", "<a>pr</a>"},
		{"first /a ", source},
		{"value /a/#[2] y", `<a>p<b k="1"><c/>q</b>y</a>`},
		{"delete /a/b/#", `<a>p<b k="1"><c/></b>r</a>`},
	} {
		becomes(t, source, c.want, 1, c.line)
	}
}

func TestChangeOfEachNodeThatIsMeant(t *testing.T) {
	const source = "<a>x<b/><c><b/>y</c><b/>z</a>"
	for _, c := range []struct {
		line, want string
		n          int
	}{
		{"rename /a/* d", "<a>x<d/><d><b/>y</d><d/>z</a>", 3},
		{"delete /a/#", "<a><b/><c><b/>y</c><b/></a>", 2},
		{"last /a/b <d/>u", "<a>x<b><d/>u</b><c><b/>y</c><b><d/>u</b>z</a>", 2},
		{"set /a/*/* k=1", `<a>x<b/><c><b k="1"/>y</c><b/>z</a>`, 1},
		{"value /a/*[2] v", "<a>x<b/><c>v</c><b/>z</a>", 1},
		{"after /a/b[2] v", "<a>x<b/><c><b/>y</c><b/>vz</a>", 1},
		{"rename /* d", "<d>x<b/><c><b/>y</c><b/>z</d>", 1},
		{"rename /a[1] d", "<d>x<b/><c><b/>y</c><b/>z</d>", 1},
	} {
		becomes(t, source, c.want, c.n, c.line)
	}
}

func TestChangeBySeveralLines(t *testing.T) {
	becomes(t, "<a><b/>x</a>", "<a><b/>x</a>", 0)
	becomes(t, "<a/>", "<a>123456</a>", 6, "last /a 1", "last /a 2", "last /a 3", "last /a 4", "last /a 5", "last /a 6")
	becomes(t, "<a><b/></a>", "<a>12<b/>34</a>", 4, "before /a/b 1", "after /a/b 3", "before /a/b 2", "after /a/b 4")
	becomes(t, "<a><b/><b/></a>", `<c k="1"><d>1</d><d>1</d></c>`, 6, "rename /a c", "rename /a/b d", "set /a k=1", "first /a/b 1")
	// The memory of a line's Content is not shared by its targets.
	s := loaded(t, "<a><b/><b/></a>")
	replies(t, s, alter(`last /a/b <c k="1"/>`), api.Reply{N: 2})
	replies(t, s, alter("set /a/b[1]/c k=2", "last /a/b[1]/c x"), api.Reply{N: 2})
	stands(t, s, `<a><b><c k="2">x</c></b><b><c k="1"/></b></a>`)
}

// Paths are of the document as it stands, not as earlier lines would make it.
func TestChangePathsAreOfTheDocumentAsItStands(t *testing.T) {
	becomes(t, "<a><b/><c/></a>", "<a><c/></a>", 2, "rename /a/b c", "delete /a/c")
	becomes(t, "<a><b/></a>", "<d/>", 2, "rename /a d", "delete /a/b")
	isRefused(t, "<a><b/></a>", api.ErrNone, "rename /a/b c", "delete /a/c")
	isRefused(t, "<a/>", api.ErrNone, "last /a <b/>", "value /a/b x")
	isRefused(t, "<a/>", api.ErrNone, "rename /a b", "value /b x")
}

// DOC.md, 'Examples of the whole'.
func TestExamplesOfTheWhole(t *testing.T) {
	becomes(t, "<a><b/>x</a>", "<a><c/>x</a>", 2, "before /a/b <c/>", "delete /a/b")
	becomes(t, "<a><b/>x</a>", "<a><c/>x</a>", 2, "delete /a/b", "before /a/b <c/>")
	becomes(t, "<a>x<b/>y</a>", "<a>xy</a>", 1, "delete /a/b")
	s := loaded(t, "<a>x<b/>y</a>")
	s.Do(alter("delete /a/b"))
	if n := len(s.Doc().Nodes); n != 2 {
		t.Errorf("two texts are not one: %d nodes", n)
	}
	isRefused(t, "<a><b/></a>", api.ErrTwice, "rename /a/b c", "rename /a/* d")
	isRefused(t, "<a><b/></a>", api.ErrTwice, "rename /a/* d", "rename /a/b c")
	becomes(t, "<a><b/></a>", "<a>x</a>", 2, "value /a x", "last /a <c/>")
	becomes(t, "<a><b/></a>", "<a>x</a>", 2, "last /a <c/>", "value /a x")
}

func TestChangeOfTooManyLines(t *testing.T) {
	six := slices.Repeat([]string{"last /a x"}, api.MaxCmds)
	becomes(t, "<a/>", "<a>xxxxxx</a>", 6, six...)
	isRefused(t, "<a/>", api.ErrLong, append(six, "last /a x")...)
	isRefused(t, "<a/>", api.ErrLong, append(six, "delete /b")...)
	isRefused(t, "<a/>", api.ErrLong, make([]string, api.MaxCmds+1)...)
	isRefused(t, "<a/>", api.ErrLong, make([]string, 100000)...)
	isRefused(t, "<a/>", api.ErrForm, make([]string, api.MaxCmds)...)
}

// Line by line: what is wrong with an earlier one is said, and with lines
// ahead of what is wrong with changes.
func TestChangeErrorsLineByLine(t *testing.T) {
	const source = "<a>x<b/></a>"
	const good, wrong, none, root = "last /a/b y", "last /a/b <", "delete /a/c", "delete /a"
	const twice, ofText, noName = "value /a/b 1", "rename /a/# c", "rename /a/b C"
	for _, c := range []struct {
		want  api.Errno
		lines []string
	}{
		{api.ErrForm, []string{wrong}},
		{api.ErrForm, []string{good, wrong}},
		{api.ErrForm, []string{"last /a/c <"}},
		{api.ErrForm, []string{good, ""}},
		{api.ErrNone, []string{none}},
		{api.ErrNone, []string{good, none}},
		{api.ErrNone, []string{"value /a/b[2] x"}},
		{api.ErrNone, []string{"value /a/#[2] x"}},
		{api.ErrNone, []string{"value /a[2] x"}},
		{api.ErrNone, []string{"value /a/a x"}},
		{api.ErrNone, []string{"value /b x"}},
		{api.ErrNone, []string{"value /# x"}},
		{api.ErrNone, []string{"rename /a/c C"}},
		{api.ErrForm, []string{wrong, none}},
		{api.ErrNone, []string{none, wrong}},
		{api.ErrForm, []string{root, wrong, none}},
		{api.ErrNone, []string{root, none, wrong}},
		{api.ErrNone, []string{ofText, none}},
		{api.ErrNone, []string{noName, none}},
		{api.ErrNone, []string{twice, twice, none}},
		{api.ErrForm, []string{twice, twice, good, wrong}},
	} {
		isRefused(t, source, c.want, c.lines...)
	}
}

func TestChangeErrorsOfApply(t *testing.T) {
	const source = "<a>x<b/></a>"
	for _, c := range []struct {
		want  api.Errno
		lines []string
	}{
		{api.ErrRoot, []string{"delete /a"}},
		{api.ErrRoot, []string{"last /a y", "replace /a <b/>"}},
		{api.ErrRoot, []string{"before /* y"}},
		{api.ErrRoot, []string{"after /a "}},
		{api.ErrKind, []string{"last /a/# y"}},
		{api.ErrKind, []string{"last /a y", "set /a/# k=1"}},
		{api.ErrForm, []string{"rename /a C"}},
		{api.ErrForm, []string{"rename /a "}},
		{api.ErrForm, []string{"rename /a  c"}},
		{api.ErrForm, []string{"rename /a abcdefghi"}},
		{api.ErrForm, []string{"rename /a/# C"}},
		{api.ErrForm, []string{"drop /a "}},
		{api.ErrForm, []string{"set /a =x"}},
		{api.ErrForm, []string{"set /a k =x"}},
		{api.ErrRoot, []string{"delete /a", "rename /a C"}},
		{api.ErrForm, []string{"rename /a C", "delete /a"}},
		{api.ErrRoot, []string{"value /a 1", "value /a 2", "delete /a"}},
		{api.ErrTwice, []string{"value /a 1", "value /a 1"}},
		{api.ErrTwice, []string{"replace /a/b 1", "last /a y", "replace /a/* 1"}},
		{api.ErrTwice, []string{"set /a k=1", "drop /a k"}},
		{api.ErrLong, []string{"value /a/# " + strings.Repeat("x", api.MaxText), "after /a/# y"}},
		{api.ErrLong, []string{"set /a k=", "set /a l=", "set /a m=", "set /a n=", "set /a o="}},
		{api.ErrLong, []string{"last /a/b " + strings.Repeat("<a>", api.MaxDepth-1) + strings.Repeat("</a>", api.MaxDepth-1)}},
		{api.ErrLong, []string{"last /a " + strings.Repeat("<b/>", api.MaxNodes-2)}},
	} {
		isRefused(t, source, c.want, c.lines...)
	}
}

func TestChangeOfAsManyAsMayBe(t *testing.T) {
	of := func(n int, kid string) string { return "<a>" + strings.Repeat(kid, n) + "</a>" }
	becomes(t, of(20, "<b/>"), of(20, "<c/>"), 20, "rename /a/b c")
	isRefused(t, of(21, "<b/>"), api.ErrLong, "rename /a/b c")
	isRefused(t, of(20, "<b/>"), api.ErrLong, "rename /a/b c", "first /a x")
	isRefused(t, of(20, "<b/>"), api.ErrLong, "delete /a", "rename /a/b c")
	isRefused(t, of(79, "<b/>"), api.ErrLong, slices.Repeat([]string{"rename /a/b C"}, api.MaxCmds)...)
}

// P6.5

func TestRun(t *testing.T) {
	l, e := Run([]api.Act{
		show(), load("<a><b/>x</a>"), load(), {}, alter("delete /a/b"), alter("delete /a"), show(),
	})
	want := []api.Reply{
		{N: 1, Text: "<doc/>"}, {N: 3}, {Code: api.ErrForm}, {Code: api.ErrKind}, {N: 1}, {Code: api.ErrRoot}, {N: 2, Text: "<a>x</a>"},
	}
	if e != api.OK || !slices.Equal(l, want) {
		t.Errorf("Run is %+v, %d, not %+v", l, e, want)
	}
}

func TestRunOfNothing(t *testing.T) {
	for _, acts := range [][]api.Act{nil, {}} {
		if l, e := Run(acts); len(l) != 0 || e != api.OK {
			t.Errorf("Run of no acts is %+v, %d", l, e)
		}
	}
}

func TestRunIsAtANewStore(t *testing.T) {
	for range 3 {
		l, e := Run([]api.Act{alter("last /doc x"), show()})
		if e != api.OK || len(l) != 2 || l[1] != (api.Reply{N: 2, Text: "<doc>x</doc>"}) {
			t.Errorf("Run is %+v, %d", l, e)
		}
	}
}

func TestRunOfAsManyAsMayBe(t *testing.T) {
	acts := slices.Repeat([]api.Act{alter("last /doc <a/>"), {}}, api.MaxActs/2)
	acts[api.MaxActs-1] = show()
	l, e := Run(acts)
	if e != api.OK || len(l) != api.MaxActs || l[api.MaxActs-1].N != 1+api.MaxActs/2 {
		t.Errorf("Run is %+v, %d", l, e)
	}
	for _, n := range []int{api.MaxActs + 1, 2 * api.MaxActs, 100000} {
		if l, e := Run(make([]api.Act, n)); e != api.ErrFull || len(l) != 0 {
			t.Errorf("Run of %d acts is %d replies, %d", n, len(l), e)
		}
	}
}
