package store

import (
	"math/rand"
	"regexp"
	"slices"
	"strings"
	"testing"

	"topiary/api"
	"topiary/mark"
	"topiary/path"
	"topiary/tree"
)

func text(s string) api.Tree { return api.Tree{Text: true, S: s} }

func element(name string, kids ...api.Tree) api.Tree { return api.Tree{S: name, Kids: kids} }

func sameOp(a, b api.Op) bool {
	return a.Kind == b.Kind && a.Target == b.Target && a.Name == b.Name && a.S == b.S && slices.EqualFunc(a.Content, b.Content, tree.Same)
}

// tells holds Line to a change, and to the path /a/b[3]/#.
func tells(t *testing.T, word, behind string, want api.Op) {
	t.Helper()
	line := word + " /a/b[3]/#" + behind
	steps := []api.Step{{Name: "a"}, {Name: "b", N: 3}, {}}
	o, l, e := Line(line)
	if e != api.OK || !sameOp(o, want) || !slices.Equal(l, steps) {
		t.Errorf("Line(%q) is %+v, %+v, %d, not %+v", line, o, l, e, want)
	}
}

func refusesLine(t *testing.T, lines ...string) {
	t.Helper()
	for _, line := range lines {
		o, l, e := Line(line)
		if e != api.ErrForm || !sameOp(o, api.Op{}) || len(l) != 0 {
			t.Errorf("Line(%q) is %+v, %+v, %d", line, o, l, e)
		}
	}
}

// P6.1

func TestLineOfEachKind(t *testing.T) {
	content := []api.Tree{text("x"), {S: "y", Attrs: []api.Attr{{Name: "k", Value: "1"}}}}
	for word, kind := range map[string]int{
		"first": api.First, "last": api.Last, "before": api.Before, "after": api.After, "replace": api.Replace,
	} {
		tells(t, word, ` x<y k="1"/>`, api.Op{Kind: kind, Content: content})
	}
	tells(t, "delete", "", api.Op{Kind: api.Delete})
	tells(t, "value", " x", api.Op{Kind: api.Value, S: "x"})
	tells(t, "rename", " x", api.Op{Kind: api.Rename, Name: "x"})
	tells(t, "set", " x=y", api.Op{Kind: api.Set, Name: "x", S: "y"})
	tells(t, "drop", " x", api.Op{Kind: api.Drop, Name: "x"})
}

func TestLineTakesAllThatFollows(t *testing.T) {
	for _, word := range []string{"first", "last", "before", "after", "replace"} {
		kind := kindOf(word)
		tells(t, word, " ", api.Op{Kind: kind})
		tells(t, word, "  ", api.Op{Kind: kind, Content: []api.Tree{text(" ")}})
		tells(t, word, "  <b /> ", api.Op{Kind: kind, Content: []api.Tree{text(" "), element("b"), text(" ")}})
		tells(t, word, " /a b=c\n&lt;", api.Op{Kind: kind, Content: []api.Tree{text("/a b=c\n<")}})
		tells(t, word, " <b>x</b ><c/>", api.Op{Kind: kind, Content: []api.Tree{element("b", text("x")), element("c")}})
	}
	tells(t, "value", " ", api.Op{Kind: api.Value})
	tells(t, "value", "   x ", api.Op{Kind: api.Value, S: "  x "})
	tells(t, "value", " &lt;&gt;&amp;&quot;\"\n=/", api.Op{Kind: api.Value, S: "<>&\"\"\n=/"})
	tells(t, "value", " "+strings.Repeat("&amp;", api.MaxText), api.Op{Kind: api.Value, S: strings.Repeat("&", api.MaxText)})
	tells(t, "set", " k=", api.Op{Kind: api.Set, Name: "k"})
	tells(t, "set", " k==", api.Op{Kind: api.Set, Name: "k", S: "="})
	tells(t, "set", " k=a=&lt;", api.Op{Kind: api.Set, Name: "k", S: "a=<"})
	tells(t, "set", " k= x ", api.Op{Kind: api.Set, Name: "k", S: " x "})
	tells(t, "set", " k=\"x\"", api.Op{Kind: api.Set, Name: "k", S: `"x"`})
}

// Whether a Name is Named is not asked of a line, but of the change
// (chapter 5).
func TestLineTakesAnyName(t *testing.T) {
	for _, name := range []string{"", " ", " x", "x ", "x y", "X", "abcdefghi", "a=b", "<", "&lt;", "&", "\x00\xff", "/a"} {
		tells(t, "rename", " "+name, api.Op{Kind: api.Rename, Name: name})
		tells(t, "drop", " "+name, api.Op{Kind: api.Drop, Name: name})
		first, behind, found := strings.Cut(name, "=")
		if !found {
			behind = "y"
		}
		tells(t, "set", " "+first+"="+behind, api.Op{Kind: api.Set, Name: first, S: behind})
	}
}

func TestLineOfWrongWords(t *testing.T) {
	refusesLine(t, "", " ", "  ", "first", "delete", "put", "first ", "delete ", "delete  ",
		"put /a x", "First /a x", "DELETE /a", "firs /a x", "firstt /a x", " first /a x", "first\n/a x", "first/a x",
		"delete/a", " delete /a", "/a x", " /a x", "1 /a x", "5 /a", "first,last /a x", "\x00 /a x")
}

func TestLineOfWrongPaths(t *testing.T) {
	refusesLine(t, "delete  /a", "delete a", "delete /", "delete /a/", "delete //a", "delete /A", "delete /a[0]", "delete /a[100]", "delete /a[01]",
		"delete /a[", "delete /abcdefghi", "delete /a/b/c/d/e/f", "delete /a\n", "delete \n/a", "delete /[1]", "delete /a b", "delete /a/#x",
		"first a <b/>", "first  /a <b/>", "first / <b/>", "first /a/ <b/>", "value  x", "rename x", "rename  x", "set k=1", "set  k=1", "drop /a[0] k", "value /a\nx", "value /a\n x")
	for _, s := range []string{"/a", "/*", "/#", "/a[99]", "/abcdefgh", "/*[1]/#[2]/b/c/d"} {
		want, _ := path.Parse(s)
		if o, l, e := Line("delete " + s); e != api.OK || !sameOp(o, api.Op{Kind: api.Delete}) || !slices.Equal(l, want) {
			t.Errorf("Line of the path %s is %+v, %+v, %d", s, o, l, e)
		}
	}
}

func TestLineWithTooLittleOrTooMuch(t *testing.T) {
	for _, word := range words {
		if word != "delete" {
			refusesLine(t, word+" /a")
		}
	}
	refusesLine(t, "delete /a ", "delete /a x", "delete /a  ", "delete /a <b/>", "delete /a /b")
	refusesLine(t, "set /a ", "set /a k", "set /a k l", "set /a k&eq;x")
}

func TestLineOfWrongContent(t *testing.T) {
	for _, word := range []string{"first", "last", "before", "after", "replace"} {
		for _, s := range []string{
			"<", ">", "&", "&x;", "<b>", "</b>", "<b/", "<b></c>", "<B/>", "\t", "x\x7f", "<b c=1/>", "< b/>",
			strings.Repeat("x", api.MaxText+1), strings.Repeat("<b/>", api.MaxNodes+1),
			strings.Repeat("<b>", api.MaxDepth+1) + strings.Repeat("</b>", api.MaxDepth+1),
		} {
			refusesLine(t, word+" /a "+s)
		}
	}
	for _, s := range []string{"<", ">", "&", "&lt", "<b/>", "\t", "\x80", strings.Repeat("x", api.MaxText+1)} {
		refusesLine(t, "value /a "+s, "set /a k="+s)
	}
}

// A line of more bytes than may be is of no form, whatever it says.
func TestLineOfManyBytes(t *testing.T) {
	filled := func(ahead, filler, behind string, length int) string {
		return ahead + strings.Repeat(filler, length-len(ahead)-len(behind)) + behind
	}
	for _, c := range [][3]string{
		{"first /a <b", " ", "/>"}, {"replace /a <b/", ">", ""}, {"rename /a ", "x", ""}, {"drop /a ", "x", ""}, {"set /a ", "x", "=y"},
	} {
		ahead, filler, behind := c[0], c[1], c[2]
		line := filled(ahead, filler, behind, api.MaxSource)
		if _, _, e := Line(line); (e == api.OK) != (filler != ">") {
			t.Errorf("Line of %d bytes from %q on is error %d", len(line), ahead, e)
		}
		refusesLine(t, filled(ahead, filler, behind, api.MaxSource+1), filled(ahead, filler, behind, 1<<20))
	}
	refusesLine(t, strings.Repeat("x", api.MaxSource+1), "delete "+strings.Repeat("/a", api.MaxSource), strings.Repeat(" ", 1<<20))
}

// The target of what a line tells is 0, and its lists are the caller's.
func TestLineAnswersNewLists(t *testing.T) {
	const line = `last /a/b <c k="1"><d/></c>`
	want := api.Op{Kind: api.Last, Content: []api.Tree{{S: "c", Attrs: []api.Attr{{Name: "k", Value: "1"}}, Kids: []api.Tree{element("d")}}}}
	for range 3 {
		o, l, e := Line(line)
		if e != api.OK || !sameOp(o, want) || !slices.Equal(l, []api.Step{{Name: "a"}, {Name: "b"}}) {
			t.Fatalf("Line(%q) is %+v, %+v, %d", line, o, l, e)
		}
		clear(o.Content[0].Kids)
		clear(o.Content[0].Attrs)
		clear(o.Content)
		clear(l)
	}
}

// lineForm tells a line by a second way: kinds by what follows the path.
var lineForm = regexp.MustCompile(`(?s)^(?:(delete) (\S+)|(first|last|before|after|replace|value|rename|drop) (\S+) (.*)|(set) (\S+) ([^=]*)=(.*))$`)

func lineBySecondWay(s string) (api.Op, []api.Step, api.Errno) {
	kinds := map[string]int{
		"first": 1, "last": 2, "before": 3, "after": 4, "delete": 5, "replace": 6, "value": 7, "rename": 8, "set": 9, "drop": 10,
	}
	m := lineForm.FindStringSubmatch(s)
	if m == nil || len(s) > api.MaxSource {
		return api.Op{}, nil, api.ErrForm
	}
	word, said := m[1]+m[3]+m[6], m[5]
	steps, pathError := path.Parse(m[2] + m[4] + m[7])
	o := api.Op{Kind: kinds[word]}
	var contentError api.Errno
	switch word {
	case "set":
		o.Name = m[8]
		o.S, contentError = mark.Text(m[9])
	case "rename", "drop":
		o.Name = said
	case "value":
		o.S, contentError = mark.Text(said)
	default:
		o.Content, contentError = mark.Content(said)
	}
	if pathError != api.OK || contentError != api.OK {
		return api.Op{}, nil, api.ErrForm
	}
	return o, steps, api.OK
}

// randomLine is pieces of lines in about the right order.
func randomLine(random *rand.Rand) string {
	pick := func(l ...string) string { return l[random.Intn(len(l))] }
	seldom := func(l ...string) string {
		if random.Intn(6) > 0 {
			return l[0]
		}
		return pick(l...)
	}
	word := pick(words[:]...)
	said := " " + pick("x", "<b/>", "k=1", "<b>x</b>y", "k=<", "", "a b", "=", "k==x", "&lt;", "X", "<b", "\t")
	if word == "delete" {
		said = seldom("", " ", " x")
	}
	return seldom(word, "", "put", " "+word) + seldom(" ", "", "  ", "\n") + pick("/a", "/a/b", "/*/*", "/a/#", "/a[2]", "/b[0]", "a", "/") + seldom(said, "", " "+said, "="+said)
}

func TestLineByASecondWay(t *testing.T) {
	random := rand.New(rand.NewSource(1))
	good := 0
	for range 100000 {
		s := randomLine(random)
		o, l, e := Line(s)
		wantOp, wantSteps, want := lineBySecondWay(s)
		if e != want || !sameOp(o, wantOp) || !slices.Equal(l, wantSteps) {
			t.Fatalf("Line(%q) is %+v, %+v, %d, not %+v, %+v, %d", s, o, l, e, wantOp, wantSteps, want)
		}
		if e == api.OK {
			good++
		}
	}
	if good < 10000 || good > 90000 {
		t.Errorf("%d are good", good)
	}
}
