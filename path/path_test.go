package path

import (
	"math"
	"math/rand"
	"regexp"
	"slices"
	"strconv"
	"strings"
	"testing"

	"topiary/api"
	"topiary/doc"
	"topiary/mark"
	"topiary/tree"
)

func step(name string, n int) api.Step { return api.Step{Name: name, N: n} }

func steps(l ...api.Step) []api.Step { return l }

// read is the document of a text that must tell one.
func read(t *testing.T, s string) api.Doc {
	t.Helper()
	tr, e := mark.Parse(s)
	if e != api.OK {
		t.Fatalf("mark.Parse(%q) is error %d", s, e)
	}
	d, e := doc.Make(tr)
	if e != api.OK {
		t.Fatalf("doc.Make(%+v) is error %d", tr, e)
	}
	return d
}

// parsed is Parse of a text that must tell a path.
func parsed(t *testing.T, s string) []api.Step {
	t.Helper()
	l, e := Parse(s)
	if e != api.OK {
		t.Fatalf("Parse(%q) is error %d", s, e)
	}
	return l
}

// told is the text of steps, good or not.
func told(l []api.Step) string {
	s := ""
	for _, st := range l {
		name := st.Name
		if name == "" {
			name = "#"
		}
		s += "/" + name
		if st.N != 0 {
			s += "[" + strconv.Itoa(st.N) + "]"
		}
	}
	return s
}

func isRefused(t *testing.T, s string) {
	t.Helper()
	if l, e := Parse(s); e != api.ErrForm || len(l) != 0 {
		t.Errorf("Parse(%.80q), %d bytes, is %+v, %d", s, len(s), l, e)
	}
}

// P4.1

func TestGood(t *testing.T) {
	for _, l := range [][]api.Step{
		steps(step("a", 0)),
		steps(step("z", 0)),
		steps(step("abcdefgh", 0)),
		steps(step("*", 0)),
		steps(step("", 0)),
		steps(step("a", 1), step("*", 2), step("", 3)),
		steps(step("", 1), step("a", 0)),
		steps(step("a", api.MaxIndex), step("*", api.MaxIndex), step("", api.MaxIndex)),
		slices.Repeat(steps(step("a", 0)), api.MaxSteps),
	} {
		if !Good(l) {
			t.Errorf("%+v is not good", l)
		}
	}
}

func TestGoodOfWrongSteps(t *testing.T) {
	for _, wrong := range []api.Step{
		step("A", 0),
		step("aB", 0),
		step("`", 0),
		step("{", 0),
		step("a1", 0),
		step("a ", 0),
		step(" ", 0),
		step("\x00", 0),
		step("\xff", 0),
		step("ä", 0),
		step("#", 0),
		step("/", 0),
		step("/a", 0),
		step("**", 0),
		step("*a", 0),
		step("a*", 0),
		step("a[1]", 0),
		step("abcdefghi", 0),
		step(strings.Repeat("a", 100000), 0),
		step("a", -1),
		step("*", -1),
		step("", -1),
		step("a", api.MaxIndex+1),
		step("*", api.MaxIndex+1),
		step("", api.MaxIndex+1),
		step("a", math.MinInt),
		step("a", math.MaxInt),
	} {
		for at := range api.MaxSteps {
			l := slices.Repeat(steps(step("a", 0)), api.MaxSteps)
			l[at] = wrong
			if Good(l) {
				t.Errorf("good: %+v", l)
			}
		}
		if Good(steps(wrong)) {
			t.Errorf("good: %+v alone", wrong)
		}
	}
}

func TestGoodCountsSteps(t *testing.T) {
	if Good(nil) || Good([]api.Step{}) {
		t.Error("no steps are good")
	}
	for n := range 3 * api.MaxSteps {
		if Good(make([]api.Step, n)) != (n >= 1 && n <= api.MaxSteps) {
			t.Errorf("%d steps", n)
		}
	}
	if Good(make([]api.Step, 1000000)) {
		t.Error("very many steps are good")
	}
}

// P4.2

func TestParse(t *testing.T) {
	for s, want := range map[string][]api.Step{
		"/a":           steps(step("a", 0)),
		"/z":           steps(step("z", 0)),
		"/*":           steps(step("*", 0)),
		"/#":           steps(step("", 0)),
		"/a[1]":        steps(step("a", 1)),
		"/*[9]":        steps(step("*", 9)),
		"/#[10]":       steps(step("", 10)),
		"/a[20]":       steps(step("a", 20)),
		"/a[99]":       steps(step("a", 99)),
		"/abcdefgh":    steps(step("abcdefgh", 0)),
		"/a/b":         steps(step("a", 0), step("b", 0)),
		"/a/*/#":       steps(step("a", 0), step("*", 0), step("", 0)),
		"/#/a":         steps(step("", 0), step("a", 0)),
		"/a[2]/b":      steps(step("a", 2), step("b", 0)),
		"/a/b[3]":      steps(step("a", 0), step("b", 3)),
		"/a[1]/*[2]/#": steps(step("a", 1), step("*", 2), step("", 0)),
		"/a/b/c/d/e":   steps(step("a", 0), step("b", 0), step("c", 0), step("d", 0), step("e", 0)),
	} {
		if l, e := Parse(s); e != api.OK || !slices.Equal(l, want) {
			t.Errorf("Parse(%q) is %+v, %d, not %+v", s, l, e, want)
		}
	}
}

func TestParseOfAllIndexes(t *testing.T) {
	for n := range 2000 {
		for _, name := range []string{"a", "*", "#"} {
			s := "/" + name + "[" + strconv.Itoa(n) + "]"
			if n == 0 || n > api.MaxIndex {
				isRefused(t, s)
			} else if l := parsed(t, s); len(l) != 1 || l[0].N != n {
				t.Errorf("Parse(%q) is %+v", s, l)
			}
			isRefused(t, "/"+name+"[0"+strconv.Itoa(n)+"]")
			isRefused(t, "/"+name+"[+"+strconv.Itoa(n)+"]")
			isRefused(t, "/"+name+"[-"+strconv.Itoa(n)+"]")
		}
	}
}

func TestParseOfWrongTexts(t *testing.T) {
	for _, s := range []string{
		// No step, or one too many.
		"", "/", "//", "//a", "/a/", "/a//b", "a", "a/b", "*", "#", "[1]", "/a/a/a/a/a/a", "/#/#/#/#/#/#",
		// No name.
		"/A", "/aA", "/a1", "/1", "/abcdefghi", "/ä", "/\xff", "/a\x00", "/a.b", "/..", "/.", "/-", "/`", "/{",
		"/**", "/*a", "/a*", "/##", "/#a", "/a#", "/*#", "/#*",
		// No index.
		"/[1]", "/[]", "/a[]", "/a[", "/a]", "/a[1", "/a1]", "/a[1]]", "/a[[1]", "/a[[1]]", "/a[1]x", "/a[1]1", "/a[1][1]", "/a[1][2]",
		"/a[0]", "/a[00]", "/a[01]", "/a[001]", "/a[+1]", "/a[-1]", "/a[-0]", "/a[--1]", "/a[1_0]", "/a[0x1]", "/a[1.0]", "/a[1e1]",
		"/a[ 1]", "/a[1 ]", "/a[a]", "/a[*]", "/a[#]", "/a[/]", "/a[1/b]", "/a]1[", "/a]1[2]", "/a[1]b[2]", "/a[１]", "/a[١]",
		"/a[100]", "/a[101]", "/a[999]",
		"/a[9223372036854775807]", "/a[9223372036854775808]", "/a[-9223372036854775808]",
		// What a number of 64 bits would be, if it were told 2^64 on.
		"/a[18446744073709551616]", "/a[18446744073709551617]", "/a[18446744073709551715]", "/a[340282366920938463463374607431768211457]",
		// Spaces.
		" ", " /a", "/a ", "/ a", "/a /b", "/a/ b", "/a [1]", "/a[1] ", "\n/a", "/a\n", "/a\t", "/a/\n",
	} {
		isRefused(t, s)
	}
}

func TestParseOfLongTexts(t *testing.T) {
	for _, n := range []int{api.MaxSource - 1, api.MaxSource, api.MaxSource + 1, api.MaxSource + 2, 1000000} {
		isRefused(t, strings.Repeat("/", n))
		isRefused(t, strings.Repeat("/a", n/2))
		isRefused(t, "/"+strings.Repeat("a", n-1))
		isRefused(t, "/a"+strings.Repeat("[", n-2))
		isRefused(t, "/a["+strings.Repeat("0", n-4)+"]")
		isRefused(t, "/a["+strings.Repeat("1", n-4)+"]")
		isRefused(t, "/a["+strings.Repeat("0", n-5)+"1]")
		isRefused(t, strings.Repeat(" ", n))
	}
	longest := strings.Repeat("/abcdefgh[99]", api.MaxSteps)
	if l := parsed(t, longest); !slices.Equal(l, slices.Repeat(steps(step("abcdefgh", 99)), api.MaxSteps)) {
		t.Errorf("the longest path is %+v", l)
	}
}

var (
	pathForm = regexp.MustCompile(`^(?:/(?:[a-z]+|\*|#)(?:\[[1-9][0-9]*\])?)+$`)
	stepForm = regexp.MustCompile(`/([a-z]+|\*|#)(?:\[([0-9]*)\])?`)
)

// byForm is Parse by way of the form that the promise tells, as a pattern.
func byForm(s string) ([]api.Step, bool) {
	if !pathForm.MatchString(s) {
		return nil, false
	}
	var l []api.Step
	for _, m := range stepForm.FindAllStringSubmatch(s, -1) {
		name, digits := strings.TrimPrefix(m[1], "#"), m[2]
		if len(name) > api.MaxName || len(digits) > 2 {
			return nil, false
		}
		n, _ := strconv.Atoi(digits)
		l = append(l, step(name, n))
	}
	if len(l) > api.MaxSteps {
		return nil, false
	}
	return l, true
}

func holdsToForm(t *testing.T, s string) bool {
	t.Helper()
	l, e := Parse(s)
	want, ok := byForm(s)
	if ok != (e == api.OK) || !slices.Equal(l, want) {
		t.Errorf("Parse(%q) is %+v, %d, not %+v, %t", s, l, e, want, ok)
	}
	if ok && (!Good(l) || told(l) != s) {
		t.Errorf("Parse(%q) is %+v, which is not good, or told otherwise", s, l)
	}
	if !ok && e != api.ErrForm {
		t.Errorf("Parse(%q) is error %d", s, e)
	}
	return ok
}

func TestParseOfAllShortTexts(t *testing.T) {
	const signs = "/a*#[]019 "
	count := 0
	var longer func(s string, more int)
	longer = func(s string, more int) {
		if holdsToForm(t, s) {
			count++
		}
		if more == 0 {
			return
		}
		for _, c := range signs {
			longer(s+string(c), more-1)
		}
	}
	longer("", 6)
	if count < 50 {
		t.Errorf("%d of the short texts are paths", count)
	}
}

func randomSteps(random *rand.Rand, names []string, most int) []api.Step {
	l := make([]api.Step, 1+random.Intn(most))
	for i := range l {
		l[i].Name = names[random.Intn(len(names))]
		if random.Intn(2) == 0 {
			l[i].N = random.Intn(most)
		}
	}
	return l
}

func TestParseOfSpoiltTexts(t *testing.T) {
	random := rand.New(rand.NewSource(1))
	const signs = "/az*#[]019{`A \n\x00\xff"
	names := []string{"a", "ab", "abcdefgh", "*", ""}
	paths := 0
	for range 50000 {
		s := []byte(told(randomSteps(random, names, api.MaxSteps)))
		for range random.Intn(3) {
			at := random.Intn(len(s))
			switch random.Intn(3) {
			case 0:
				s[at] = signs[random.Intn(len(signs))]
			case 1:
				s = slices.Insert(s, at, signs[random.Intn(len(signs))])
			case 2:
				s = append(slices.Delete(s, at, at+1), '1')
			}
		}
		if holdsToForm(t, string(s)) {
			paths++
		}
		if t.Failed() {
			return
		}
	}
	if paths < 10000 || paths > 40000 {
		t.Errorf("%d of the spoilt texts are paths", paths)
	}
}

func TestParseOfWhatIsTold(t *testing.T) {
	names := []string{"a", "zz", "abcdefgh", "*", ""}
	for _, first := range names {
		for _, second := range names {
			for n := 0; n <= api.MaxIndex; n++ {
				l := steps(step(first, n), step(second, api.MaxIndex-n))
				if got := parsed(t, told(l)); !slices.Equal(got, l) {
					t.Errorf("Parse(%q) is %+v", told(l), got)
				}
			}
		}
	}
}

// P4.3

func selects(t *testing.T, d api.Doc, s string, want ...int) {
	t.Helper()
	if got, e := Select(d, parsed(t, s)); e != api.OK || !slices.Equal(got, want) {
		t.Errorf("Select of %s is %v, %d, not %v", s, got, e, want)
	}
}

func TestSelectOfTheRoot(t *testing.T) {
	d := read(t, "<a><a/><b/></a>")
	selects(t, d, "/a", 0)
	selects(t, d, "/*", 0)
	selects(t, d, "/a[1]", 0)
	selects(t, d, "/*[1]", 0)
	selects(t, d, "/b")
	selects(t, d, "/#")
	selects(t, d, "/a[2]")
	selects(t, d, "/*[2]")
	selects(t, d, "/#[1]")
	selects(t, d, "/b/*")
	selects(t, d, "/#/*")
	selects(t, d, "/a[2]/a")
	selects(t, read(t, "<a/>"), "/a", 0)
	selects(t, read(t, "<a/>"), "/a/*")
	selects(t, read(t, "<a/>"), "/a/#")
}

func TestSelectOfKids(t *testing.T) {
	d := read(t, "<a>p<b/><c/>q<b/><ab/>r</a>")
	selects(t, d, "/a/b", 2, 5)
	selects(t, d, "/a/c", 3)
	selects(t, d, "/a/ab", 6)
	selects(t, d, "/a/a")
	selects(t, d, "/a/*", 2, 3, 5, 6)
	selects(t, d, "/a/#", 1, 4, 7)
	selects(t, d, "/a/b[1]", 2)
	selects(t, d, "/a/b[2]", 5)
	selects(t, d, "/a/b[3]")
	selects(t, d, "/a/b[99]")
	selects(t, d, "/a/*[1]", 2)
	selects(t, d, "/a/*[3]", 5)
	selects(t, d, "/a/*[4]", 6)
	selects(t, d, "/a/*[5]")
	selects(t, d, "/a/#[1]", 1)
	selects(t, d, "/a/#[3]", 7)
	selects(t, d, "/a/#[4]")
	selects(t, d, "/a/#/*")
	selects(t, d, "/a/#/#")
	selects(t, d, "/a/b/*")
}

// A text is not an element of that name, nor one that * means.
func TestSelectOfTextsLikeNames(t *testing.T) {
	d := read(t, "<a>b<b/>*</a>")
	selects(t, d, "/a/b", 2)
	selects(t, d, "/a/b[2]")
	selects(t, d, "/a/*", 2)
	selects(t, d, "/a/#", 1, 3)
}

// The N-th is counted among the kids of each node by itself.
func TestSelectCountsEachByItself(t *testing.T) {
	d := read(t, "<a><b><c/>p<c/></b><b/><b>q<c/></b><d><c/><e/><c/><c/></d></a>")
	selects(t, d, "/a/b", 1, 5, 6)
	selects(t, d, "/a/b/c", 2, 4, 8)
	selects(t, d, "/a/b/c[1]", 2, 8)
	selects(t, d, "/a/b/c[2]", 4)
	selects(t, d, "/a/b/c[3]")
	selects(t, d, "/a/*/c[1]", 2, 8, 10)
	selects(t, d, "/a/*/c[2]", 4, 12)
	selects(t, d, "/a/*/c[3]", 13)
	selects(t, d, "/a/*/*[2]", 4, 11)
	selects(t, d, "/a/*/#[1]", 3, 7)
	selects(t, d, "/a/b[3]/c", 8)
	selects(t, d, "/a/b[2]/c")
	selects(t, d, "/a/b[3]/*[1]", 8)
	selects(t, d, "/a/*[4]/c[2]", 12)
}

// A node in between that is like the one that is meant does not count: steps
// go to kids, not to whatever is deeper.
func TestSelectGoesFromKidToKid(t *testing.T) {
	d := read(t, "<a><a><a><a><a><a>x</a></a></a></a></a></a>")
	for i := range api.MaxSteps {
		selects(t, d, strings.Repeat("/a", i+1), i)
		selects(t, d, strings.Repeat("/*[1]", i+1), i)
		selects(t, d, strings.Repeat("/a", i)+"/#")
	}
	d = read(t, "<a><b><c><d>x</d></c></b></a>")
	selects(t, d, "/a/b/c/d/#", 4)
	selects(t, d, "/a/c")
	selects(t, d, "/a/b/d")
	selects(t, d, "/a/#")
}

func TestSelectAtTheLimits(t *testing.T) {
	wide := read(t, "<a>"+strings.Repeat("<b/>", api.MaxNodes-1)+"</a>")
	var all []int
	for n := 1; n < api.MaxNodes; n++ {
		all = append(all, n)
		selects(t, wide, "/a/b["+strconv.Itoa(n)+"]", n)
	}
	selects(t, wide, "/a/b", all...)
	selects(t, wide, "/a/*", all...)
	for n := api.MaxNodes; n <= api.MaxIndex; n++ {
		selects(t, wide, "/a/b["+strconv.Itoa(n)+"]")
	}
}

func TestSelectOfWrongDocuments(t *testing.T) {
	node := func(name string, parent int, kids ...int) api.Node {
		return api.Node{S: name, Parent: parent, Kids: kids}
	}
	for i, d := range []api.Doc{
		{},
		{Nodes: []api.Node{}},
		{Nodes: []api.Node{{Text: true, S: "x", Parent: -1}}},
		{Nodes: []api.Node{node("A", -1)}},
		{Nodes: []api.Node{node("a", 0)}},
		{Nodes: []api.Node{node("a", -1, 0)}},
		{Nodes: []api.Node{node("a", -1, 1)}},
		{Nodes: []api.Node{node("a", -1, -1)}},
		{Nodes: []api.Node{node("a", -1, math.MaxInt)}},
		{Nodes: []api.Node{node("a", -1, math.MinInt)}},
		{Nodes: []api.Node{node("a", -1), node("a", 0)}},
		{Nodes: []api.Node{node("a", -1, 1, 1), node("a", 0)}},
		{Nodes: []api.Node{node("a", -1, 2, 1), node("a", 0), node("a", 0)}},
		{Nodes: []api.Node{node("a", 1, 1), node("a", 0, 0)}},
		{Nodes: []api.Node{node("a", -1, 1), node("B", 0)}},
		{Nodes: make([]api.Node, 100000)},
		{Nodes: append([]api.Node{node("a", -1)}, make([]api.Node, api.MaxNodes)...)},
	} {
		for _, l := range [][]api.Step{nil, steps(step("a", 0)), steps(step("*", 0), step("*", 0)), steps(step("*", 0), step("*", 0), step("", 1))} {
			if got, e := Select(d, l); e != api.ErrForm || len(got) != 0 {
				t.Errorf("Select of document %d, %+v is %v, %d", i, l, got, e)
			}
		}
	}
}

func TestSelectOfWrongPaths(t *testing.T) {
	d := read(t, "<a><b/>x</a>")
	for _, l := range [][]api.Step{
		nil,
		{},
		slices.Repeat(steps(step("*", 0)), api.MaxSteps+1),
		steps(step("A", 0)),
		steps(step("#", 0)),
		steps(step("a", 0), step("#", 0)),
		steps(step("a", 0), step("b ", 0)),
		steps(step("a", 0), step("abcdefghi", 0)),
		steps(step("a", -1)),
		steps(step("a", 0), step("b", -1)),
		steps(step("a", 0), step("b", math.MinInt)),
		steps(step("a", 0), step("b", math.MaxInt)),
		steps(step("a", 0), step("", api.MaxIndex+1)),
		// Nothing is left to be meant where the wrong step comes.
		steps(step("b", 0), step("A", 0)),
		steps(step("b", 0), step("b", 0), step("b", api.MaxIndex+1)),
	} {
		if got, e := Select(d, l); e != api.ErrForm || len(got) != 0 {
			t.Errorf("Select of %+v is %v, %d", l, got, e)
		}
	}
}

// isMeant is whether a path means a node, by way of its parents: each of them
// is meant by its own step, among its own brothers and sisters.
func isMeant(d api.Doc, l []api.Step, n int) bool {
	if len(l) == 0 || n < 0 {
		return len(l) == 0 && n < 0
	}
	last, node := l[len(l)-1], d.Nodes[n]
	like := func(m int) bool {
		other := d.Nodes[m]
		if other.Parent != node.Parent {
			return false
		}
		if other.Text {
			return last.Name == ""
		}
		return last.Name == "*" || last.Name == other.S && last.Name != ""
	}
	count := 0
	for m := range n + 1 {
		if like(m) {
			count++
		}
	}
	return like(n) && (last.N == 0 || last.N == count) && isMeant(d, l[:len(l)-1], node.Parent)
}

func randomTree(random *rand.Rand, depth int) api.Tree {
	t := api.Tree{S: string("abz"[random.Intn(3)])}
	for range random.Intn(6) {
		if depth > 1 && random.Intn(3) != 0 {
			t.Kids = append(t.Kids, randomTree(random, depth-1))
		} else if depth > 1 && (len(t.Kids) == 0 || !t.Kids[len(t.Kids)-1].Text) {
			t.Kids = append(t.Kids, api.Tree{Text: true, S: string("abz*#"[random.Intn(5)])})
		}
	}
	return t
}

func TestSelectByTheParents(t *testing.T) {
	random := rand.New(rand.NewSource(2))
	names := []string{"a", "b", "z", "*", "*", "*", ""}
	some, several := 0, 0
	for range 1000 {
		tr := randomTree(random, 1+random.Intn(api.MaxDepth))
		if !tree.Good(tr) {
			continue
		}
		d, _ := doc.Make(tr)
		for range 50 {
			l := randomSteps(random, names, api.MaxSteps)
			if random.Intn(2) == 0 {
				l[0] = step("*", 0)
			}
			var want []int
			for n := range d.Nodes {
				if isMeant(d, l, n) {
					want = append(want, n)
				}
			}
			got, e := Select(d, l)
			if e != api.OK || !slices.Equal(got, want) {
				t.Fatalf("Select(%+v, %s) is %v, %d, not %v", d, told(l), got, e, want)
			}
			if len(want) > 0 && len(l) > 1 {
				some++
			}
			if len(want) > 1 {
				several++
			}
		}
	}
	if some < 1000 || several < 1000 {
		t.Errorf("%d paths mean some nodes, %d several", some, several)
	}
}

// What holds everywhere.

func TestWhatIsHandedInStays(t *testing.T) {
	const source = "<a>p<b><c/>q<c/></b><d/><b>r<c/></b></a>"
	want := read(t, source)
	d := read(t, source)
	d.Nodes = append(d.Nodes, api.Node{S: "spare"})[:len(d.Nodes)]
	for i := range d.Nodes {
		kids := &d.Nodes[i].Kids
		*kids = append(*kids, 99)[:len(*kids)]
	}
	for _, s := range []string{"/a", "/*", "/a/*", "/a/b/c", "/a/b/c[1]", "/a/#", "/a/*[2]"} {
		l := parsed(t, s)
		l = append(l, step("spare", 7))[:len(l)]
		before := slices.Clone(l)
		Good(l)
		got, _ := Select(d, l)
		clear(got[:cap(got)])
		if !slices.Equal(l, before) || l[:len(l)+1][len(l)] != step("spare", 7) {
			t.Errorf("the path %s is now %+v", s, l)
		}
	}
	for i, node := range d.Nodes {
		kids := node.Kids
		if !slices.Equal(kids, want.Nodes[i].Kids) || kids[:len(kids)+1][len(kids)] != 99 || node.S != want.Nodes[i].S {
			t.Errorf("node %d is now %+v", i, node)
		}
	}
	if d.Nodes[:len(d.Nodes)+1][len(d.Nodes)].S != "spare" {
		t.Error("the spare room of the nodes is changed")
	}
}

func TestAnswersHangOnArgumentsAlone(t *testing.T) {
	d := read(t, "<a><b/><b/></a>")
	for range 3 {
		l := parsed(t, "/a/b")
		got, e := Select(d, l)
		if e != api.OK || !slices.Equal(got, []int{1, 2}) {
			t.Errorf("Select is %v, %d", got, e)
		}
		clear(got)
		clear(l)
		isRefused(t, "/a/")
	}
}
