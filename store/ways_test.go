package store

import (
	"math/rand"
	"slices"
	"strings"
	"testing"

	"topiary/api"
	"topiary/change"
	"topiary/doc"
	"topiary/mark"
)

// model does acts by a second way: it keeps a tree, and finds what a path means
// by going through all of it.
type model struct {
	tree api.Tree
	acts int
}

// numbered is a node of a tree by number, with all steps that lead to it: of
// each how it is called, and how many of that name, and of its kind, stand
// ahead of it.
type numbered struct {
	names              []string
	sameName, sameKind []int
}

func nameOf(t api.Tree) string {
	if t.Text {
		return ""
	}
	return t.S
}

func (m *model) numbered() []numbered {
	var all []numbered
	var walk func(t api.Tree, above numbered, sameName, sameKind int)
	walk = func(t api.Tree, above numbered, sameName, sameKind int) {
		n := numbered{
			append(slices.Clone(above.names), nameOf(t)),
			append(slices.Clone(above.sameName), sameName),
			append(slices.Clone(above.sameKind), sameKind),
		}
		all = append(all, n)
		names, elements := map[string]int{}, 0
		for _, k := range t.Kids {
			names[nameOf(k)]++
			if !k.Text {
				elements++
			}
			walk(k, n, names[nameOf(k)], elements)
		}
	}
	walk(m.tree, numbered{}, 1, 1)
	return all
}

func (n numbered) isMeant(l []api.Step) bool {
	if len(n.names) != len(l) {
		return false
	}
	for i, s := range l {
		nth := n.sameName[i]
		if s.Name == "*" {
			nth = n.sameKind[i]
		}
		if s.Name == "*" && n.names[i] == "" || s.Name != "*" && s.Name != n.names[i] || s.N != 0 && s.N != nth {
			return false
		}
	}
	return true
}

func (m *model) do(a api.Act) api.Reply {
	m.acts++
	if m.acts > 100 {
		return api.Reply{Code: api.ErrFull}
	}
	switch a.Kind {
	default:
		return api.Reply{Code: api.ErrKind}
	case api.ActShow:
		d, _ := doc.Make(m.tree)
		s, e := mark.Print(m.tree)
		if e != api.OK {
			return api.Reply{Code: e}
		}
		return api.Reply{N: len(d.Nodes), Text: s}
	case api.ActLoad:
		if len(a.Lines) != 1 {
			return api.Reply{Code: api.ErrForm}
		}
		t, e := mark.Parse(a.Lines[0])
		if e != api.OK {
			return api.Reply{Code: e}
		}
		m.tree = t
		return api.Reply{N: len(m.numbered())}
	case api.ActChange:
		return m.alter(a.Lines)
	}
}

func (m *model) alter(lines []string) api.Reply {
	if len(lines) > 6 {
		return api.Reply{Code: api.ErrLong}
	}
	var all []api.Op
	for _, line := range lines {
		o, steps, e := lineBySecondWay(line)
		if e != api.OK {
			return api.Reply{Code: e}
		}
		was := len(all)
		for i, n := range m.numbered() {
			if n.isMeant(steps) {
				o.Target = i
				all = append(all, o)
			}
		}
		if len(all) == was {
			return api.Reply{Code: api.ErrNone}
		}
	}
	d, _ := doc.Make(m.tree)
	d, e := change.Apply(d, all)
	if e != api.OK {
		return api.Reply{Code: e}
	}
	m.tree, _ = doc.Tree(d, 0)
	return api.Reply{N: len(all)}
}

func randomAct(random *rand.Rand) api.Act {
	pick := func(l ...string) string { return l[random.Intn(len(l))] }
	switch n := random.Intn(20); {
	case n == 0:
		return api.Act{Kind: random.Intn(6) - 1, Lines: make([]string, random.Intn(3))}
	case n < 5:
		return load(pick("<a>x<b/>y<b>z</b></a>", "<a><b><c/>x</b><c/><b/></a>", "<a>x<b>y<c/></b><c><b/>z</c></a>", "<a>", "", "<b>"+strings.Repeat("<a>x</a>", 30)+"</b>"))
	case n < 9:
		return show()
	}
	var lines []string
	for range random.Intn(5) + random.Intn(2)*random.Intn(4) {
		lines = append(lines, randomChange(random, pick))
	}
	return alter(lines...)
}

// randomChange is a line that is nearly always of the form of one.
func randomChange(random *rand.Rand, pick func(...string) string) string {
	if random.Intn(30) == 0 {
		return randomLine(random)
	}
	where := pick("/*", "/*/*", "/*/*", "/*/b", "/*/b", "/a/*[2]", "/*/#[1]", "/*/*/#", "/*/*/*", "/*/c[1]/*")
	switch word := pick(words[:]...); word {
	case "delete":
		return word + " " + where
	case "value":
		return word + " " + where + " " + pick("", "v", "&lt;w", strings.Repeat("&amp;", 40))
	case "rename":
		return word + " " + where + " " + pick("a", "b", "c", "doc", "b", "c", "D")
	case "set":
		return word + " " + where + " " + pick("k", "l", "m", "") + "=" + pick("", "1", "&quot;", strings.Repeat("&gt;", 40))
	case "drop":
		return word + " " + where + " " + pick("k", "l", "m")
	default:
		return word + " " + where + " " + pick("", "t", "<b/>", "<c/>", "<b/>t<c>u</c>", `<b k="1">v</b>`, "<b><c><b>deep</b></c></b>")
	}
}

func TestDoByASecondWay(t *testing.T) {
	random := rand.New(rand.NewSource(1))
	count := map[api.Errno]int{}
	changed, many := 0, 0
	for range 300 {
		s, m := New(), &model{tree: element("doc")}
		var acts []api.Act
		var all []api.Reply
		for range api.MaxActs + 2 {
			a := randomAct(random)
			got, want := s.Do(a), m.do(a)
			if got != want {
				t.Fatalf("Do(%+v) behind %+v is %+v, not %+v", a, acts, got, want)
			}
			if d, _ := doc.Make(m.tree); !alike(d, s.Doc()) {
				t.Fatalf("%+v behind %+v makes %s, not %s", a, acts, told(s.Doc()), told(d))
			}
			acts, all = append(acts, a), append(all, got)
			count[got.Code]++
			if a.Kind == api.ActChange && got.N > 0 {
				changed++
			}
			if a.Kind == api.ActChange && got.N > 1 {
				many++
			}
		}
		l, e := Run(acts[:api.MaxActs])
		if e != api.OK || !slices.Equal(l, all[:api.MaxActs]) {
			t.Fatalf("Run(%+v) is %+v, %d, not %+v", acts, l, e, all)
		}
	}
	for e := api.OK; e <= api.ErrFull; e++ {
		if count[e] < 50 {
			t.Errorf("error %d came %d times", e, count[e])
		}
	}
	if changed < 2000 || many < 1000 {
		t.Errorf("%d acts did changes, %d of them several", changed, many)
	}
}

// What holds everywhere.

func TestLinesThatAreHandedInStay(t *testing.T) {
	random := rand.New(rand.NewSource(2))
	for range 100 {
		var acts []api.Act
		var was [][]string
		for range api.MaxActs {
			a := randomAct(random)
			was = append(was, append(slices.Clone(a.Lines), "spare"))
			a.Lines = append(slices.Clone(a.Lines), "spare")[:len(a.Lines)]
			acts = append(acts, a)
		}
		kinds := make([]int, len(acts))
		for i, a := range acts {
			kinds[i] = a.Kind
		}
		Run(acts)
		for i, a := range acts {
			if a.Kind != kinds[i] || len(a.Lines) != len(was[i])-1 || !slices.Equal(a.Lines[:len(was[i])], was[i]) {
				t.Fatalf("%+v were %q", a, was[i])
			}
		}
	}
}

// A store does not keep the lists that it is handed: what is done to them
// later is not done to it.
func TestLinesThatWereHandedInAreFree(t *testing.T) {
	lines := []string{`<a k="1"><b/>x</a>`}
	s := New()
	s.Do(load(lines...))
	clear(lines)
	stands(t, s, `<a k="1"><b/>x</a>`)
	lines = []string{"rename /a/b c", "last /a y"}
	s.Do(alter(lines...))
	clear(lines)
	stands(t, s, `<a k="1"><c/>xy</a>`)
}

func TestNothingPanics(t *testing.T) {
	random := rand.New(rand.NewSource(3))
	signs := []string{"first", "delete", "set", "value", " ", "/", "a", "*", "#", "[", "]", "1", "<", ">", "/>", "</", "=", `"`, "&lt;", "&", "\n", "\x00", "\xff"}
	for range 20000 {
		var w strings.Builder
		for range random.Intn(12) {
			w.WriteString(signs[random.Intn(len(signs))])
		}
		s := w.String()
		Line(s)
		if l, e := Run([]api.Act{load(s), alter(s), alter(s, s), show()}); e != api.OK || len(l) != 4 {
			t.Fatalf("Run of %q is %+v, %d", s, l, e)
		}
	}
	deep := strings.Repeat("<a>", api.MaxSource)
	wide := strings.Repeat("x", 1<<22)
	s := New()
	refuses(t, s, api.ErrLong, load(deep))
	refuses(t, s, api.ErrLong, load(wide))
	refuses(t, s, api.ErrForm, load(deep[:api.MaxSource]))
	refuses(t, s, api.ErrForm, alter("last /doc "+deep))
	refuses(t, s, api.ErrForm, alter("last /doc "+wide))
	refuses(t, s, api.ErrForm, alter(("last /doc " + deep)[:api.MaxSource]))
}
