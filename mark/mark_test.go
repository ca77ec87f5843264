package mark

import (
	"math/rand"
	"reflect"
	"regexp"
	"slices"
	"strings"
	"testing"

	"topiary/api"
	"topiary/tree"
)

func text(s string) api.Tree { return api.Tree{Text: true, S: s} }

func element(name string, kids ...api.Tree) api.Tree { return api.Tree{S: name, Kids: kids} }

func withAttrs(t api.Tree, attrs ...api.Attr) api.Tree {
	t.Attrs = attrs
	return t
}

func chain(levels int, t api.Tree) api.Tree {
	for range levels {
		t = element("a", t)
	}
	return t
}

func many(n int, t api.Tree) []api.Tree { return slices.Repeat([]api.Tree{t}, n) }

func sameAll(a, b []api.Tree) bool { return slices.EqualFunc(a, b, tree.Same) }

func isZero(v any) bool {
	r := reflect.ValueOf(v)
	return r.IsZero() || r.Kind() == reflect.Slice && r.Len() == 0
}

// tells: s is a document's text, and t that document.
func tells(t *testing.T, s string, want api.Tree) {
	t.Helper()
	if got, e := Parse(s); e != api.OK || !tree.Same(got, want) {
		t.Errorf("Parse(%q) is %+v, %d, not %+v", s, got, e, want)
	}
	if got, e := Content(s); e != api.OK || !sameAll(got, []api.Tree{want}) {
		t.Errorf("Content(%q) is %+v, %d, not just %+v", s, got, e, want)
	}
}

func parseRefuses(t *testing.T, s string, want api.Errno) {
	t.Helper()
	if got, e := Parse(s); e != want || !isZero(got) {
		t.Errorf("Parse(%q) is %+v, %d, not error %d", s, got, e, want)
	}
}

func contentRefuses(t *testing.T, s string, want api.Errno) {
	t.Helper()
	if got, e := Content(s); e != want || !isZero(got) {
		t.Errorf("Content(%q) is %+v, %d, not error %d", s, got, e, want)
	}
}

func textRefuses(t *testing.T, s string, want api.Errno) {
	t.Helper()
	if got, e := Text(s); e != want || got != "" {
		t.Errorf("Text(%q) is %q, %d, not error %d", s, got, e, want)
	}
}

func printRefuses(t *testing.T, tr api.Tree, want api.Errno) {
	t.Helper()
	if got, e := Print(tr); e != want || got != "" {
		t.Errorf("Print(%+v) is %q, %d, not error %d", tr, got, e, want)
	}
}

// P2.1

func TestMarksAsPrinted(t *testing.T) {
	for _, c := range []struct{ s, inText, inValue string }{
		{"x", "x", "x"},
		{"<", "&lt;", "&lt;"},
		{">", "&gt;", "&gt;"},
		{"&", "&amp;", "&amp;"},
		{`"`, `"`, "&quot;"},
		{"'", "'", "'"},
		{"&lt;", "&amp;lt;", "&amp;lt;"},
		{"&&", "&amp;&amp;", "&amp;&amp;"},
		{`a<b>c&d"e`, `a&lt;b&gt;c&amp;d"e`, "a&lt;b&gt;c&amp;d&quot;e"},
		{" \n~/=", " \n~/=", " \n~/="},
	} {
		for _, p := range []struct {
			t    api.Tree
			want string
		}{
			{element("a", text(c.s)), "<a>" + c.inText + "</a>"},
			{withAttrs(element("a"), api.Attr{Name: "b", Value: c.s}), `<a b="` + c.inValue + `"/>`},
		} {
			if got, e := Print(p.t); e != api.OK || got != p.want {
				t.Errorf("Print(%+v) is %q, %d, not %q", p.t, got, e, p.want)
			}
		}
	}
}

func TestMarksAsRead(t *testing.T) {
	for _, c := range []struct{ s, want string }{
		{"&lt;", "<"},
		{"&gt;", ">"},
		{"&amp;", "&"},
		{"&quot;", `"`},
		{"&amp;lt;", "&lt;"},
		{"&amp;amp;", "&amp;"},
		{"&lt;&lt;", "<<"},
		{"x&lt;y&gt;z&amp;w&quot;v", `x<y>z&w"v`},
		{"lt;gt;", "lt;gt;"},
		{";", ";"},
		{" \n", " \n"},
		{"'/=~", "'/=~"},
	} {
		if got, e := Text(c.s); e != api.OK || got != c.want {
			t.Errorf("Text(%q) is %q, %d, not %q", c.s, got, e, c.want)
		}
		tells(t, "<a>"+c.s+"</a>", element("a", text(c.want)))
		tells(t, `<a b="`+c.s+`"/>`, withAttrs(element("a"), api.Attr{Name: "b", Value: c.want}))
	}
}

func TestWrongMarks(t *testing.T) {
	wrong := []string{"&", "&&", "&lt", "&l", "& lt;", "&lt ;", "&LT;", "&Lt;", "&lT;", "&nbsp;", "&apos;", "&quote;", "&am;", "&;", "&#60;", "&#x3c;", "x&", "&x", "&lt;&", "&amp", "&ampamp;", "&l&lt;t;", "<", ">", "x<", ">x", "&lt;>"}
	for _, s := range wrong {
		textRefuses(t, s, api.ErrForm)
		contentRefuses(t, s, api.ErrForm)
		parseRefuses(t, "<a>"+s+"</a>", api.ErrForm)
		parseRefuses(t, `<a b="`+s+`"/>`, api.ErrForm)
	}
}

func TestQuotes(t *testing.T) {
	tells(t, `<a>"</a>`, element("a", text(`"`)))
	tells(t, `<a>"x="&quot;</a>`, element("a", text(`"x=""`)))
	if got, e := Text(`"`); e != api.OK || got != `"` {
		t.Errorf("Text of a quote is %q, %d", got, e)
	}
	for _, s := range []string{`<a b="""/>`, `<a b="x"y"/>`, `<a b="x" y"/>`, `<a b="/>`, `<a b=""`} {
		parseRefuses(t, s, api.ErrForm)
		contentRefuses(t, s, api.ErrForm)
	}
}

func TestEveryByte(t *testing.T) {
	for b := range 256 {
		c := string([]byte{byte(b)})
		plain := b >= 32 && b <= 126 || b == 10
		bare := strings.Contains("<>&", c)
		for _, s := range []string{c, "x" + c, c + "x"} {
			if !plain || bare {
				textRefuses(t, s, api.ErrForm)
				parseRefuses(t, "<a>"+s+"</a>", api.ErrForm)
				contentRefuses(t, s, api.ErrForm)
			} else {
				if got, e := Text(s); e != api.OK || got != s {
					t.Errorf("Text(%q) is %q, %d", s, got, e)
				}
				tells(t, "<a>"+s+"</a>", element("a", text(s)))
			}
			inValue := `<a b="` + s + `"/>`
			if !plain || bare || c == `"` {
				parseRefuses(t, inValue, api.ErrForm)
			} else {
				tells(t, inValue, withAttrs(element("a"), api.Attr{Name: "b", Value: s}))
			}
		}
	}
}

// P2.2

func TestPrint(t *testing.T) {
	for _, c := range []struct {
		t    api.Tree
		want string
	}{
		{element("a"), "<a/>"},
		{api.Tree{S: "a", Attrs: []api.Attr{}, Kids: []api.Tree{}}, "<a/>"},
		{element("abcdefgh", text("x")), "<abcdefgh>x</abcdefgh>"},
		{element("a", element("b"), text("x")), "<a><b/>x</a>"},
		{element("a", text("x"), element("b", element("c"), text(" ")), text("\n")), "<a>x<b><c/> </b>\n</a>"},
		{withAttrs(element("a"), api.Attr{Name: "b"}), `<a b=""/>`},
		{withAttrs(element("a", text("x")), api.Attr{Name: "b", Value: "1"}, api.Attr{Name: "c", Value: " 2 "}), `<a b="1" c=" 2 ">x</a>`},
		{element("a", withAttrs(element("b"), api.Attr{Name: "a", Value: "<"})), `<a><b a="&lt;"/></a>`},
		{chain(7, element("b")), "<a><a><a><a><a><a><a><b/></a></a></a></a></a></a></a>"},
	} {
		if got, e := Print(c.t); e != api.OK || got != c.want {
			t.Errorf("Print(%+v) is %q, %d, not %q", c.t, got, e, c.want)
		}
	}
}

func TestPrintOfTreesThatAreNotGood(t *testing.T) {
	endless := element("a", element("b"))
	endless.Kids[0].Kids = endless.Kids
	for _, tr := range []api.Tree{
		{},
		text("x"),
		element("A"),
		element("abcdefghi"),
		element("a", text("")),
		element("a", text("x"), text("y")),
		element("a", text("\t")),
		element("a", text(strings.Repeat("x", api.MaxText+1))),
		element("a", api.Tree{Text: true, S: "x", Kids: []api.Tree{element("b")}}),
		withAttrs(element("a"), api.Attr{Name: "c"}, api.Attr{Name: "b"}),
		withAttrs(element("a"), api.Attr{Name: "b"}, api.Attr{Name: "b"}),
		withAttrs(element("a"), api.Attr{Name: "b", Value: "\x7f"}),
		chain(api.MaxDepth, element("b")),
		element("a", many(api.MaxNodes, element("b"))...),
		endless,
	} {
		printRefuses(t, tr, api.ErrForm)
	}
}

// ofLength is a good tree that is printed in n bytes, of 800 to 3200.
func ofLength(n int) api.Tree {
	root := element("a")
	left := n - len("<a></a>")
	for left > 0 {
		k := withAttrs(element("b"), api.Attr{Name: "c"})
		room := left - len(`<b c=""/>`)
		if room > api.MaxText && room < api.MaxText+10 {
			room = api.MaxText - 10
		}
		room = min(room, api.MaxText)
		k.Attrs[0].Value = strings.Repeat("x", room)
		left -= len(`<b c=""/>`) + room
		root.Kids = append(root.Kids, k)
	}
	return root
}

func TestPrintLength(t *testing.T) {
	for n := api.MaxSource - 60; n <= api.MaxSource+60; n++ {
		tr := ofLength(n)
		if !tree.Good(tr) {
			t.Fatalf("the tree of %d bytes is not good", n)
		}
		if n > api.MaxSource {
			printRefuses(t, tr, api.ErrLong)
			continue
		}
		if got, e := Print(tr); e != api.OK || len(got) != n {
			t.Errorf("Print of %d bytes is %d bytes, %d", n, len(got), e)
		}
	}
	marked := element("a", slices.Repeat([]api.Tree{element("b"), text(strings.Repeat("&", api.MaxText))}, 12)...)
	if got, e := Print(marked); e != api.OK || len(got) != 7+12*(4+5*api.MaxText) {
		t.Errorf("Print of marks is %d bytes, %d", len(got), e)
	}
	marked.Kids = append(marked.Kids, element("b"), text(strings.Repeat("&", api.MaxText)))
	printRefuses(t, marked, api.ErrLong)
	tooLongAndNotGood := ofLength(api.MaxSource + 1)
	tooLongAndNotGood.S = ""
	printRefuses(t, tooLongAndNotGood, api.ErrForm)
}

func TestTreesHandedInStay(t *testing.T) {
	build := func() api.Tree {
		attrs := append([]api.Attr{}, api.Attr{Name: "b", Value: "<"}, api.Attr{Name: "c"}, api.Attr{Name: "spare"})
		kids := append([]api.Tree{}, element("d"), text("&"), element("spare"))
		return api.Tree{S: "a", Attrs: attrs[:2], Kids: kids[:2]}
	}
	tr := build()
	if s, e := Print(tr); e != api.OK || s != `<a b="&lt;" c=""><d/>&amp;</a>` {
		t.Errorf("Print is %q, %d", s, e)
	}
	if want := build(); !reflect.DeepEqual(tr, want) || !reflect.DeepEqual(tr.Attrs[:3], want.Attrs[:3]) || !reflect.DeepEqual(tr.Kids[:3], want.Kids[:3]) {
		t.Errorf("Print made %+v of its argument", tr)
	}
}

// P2.3

func TestParse(t *testing.T) {
	b, c := api.Attr{Name: "b", Value: "1"}, api.Attr{Name: "c", Value: "2"}
	for _, p := range []struct {
		s    string
		want api.Tree
	}{
		{"<a/>", element("a")},
		{"<a></a>", element("a")},
		{"<a />", element("a")},
		{"<a\n/>", element("a")},
		{"<a \n  />", element("a")},
		{"<a ></a>", element("a")},
		{"<a></a >", element("a")},
		{"<a \n\n></a\n >", element("a")},
		{"<abcdefgh></abcdefgh>", element("abcdefgh")},
		{"<a><b/>x</a>", element("a", element("b"), text("x"))},
		{"<a> </a>", element("a", text(" "))},
		{"<a> <b> </b> </a>", element("a", text(" "), element("b", text(" ")), text(" "))},
		{"<a>/</a>", element("a", text("/"))},
		{"<a>x<b/>y<b></b>z</a>", element("a", text("x"), element("b"), text("y"), element("b"), text("z"))},
		{"<a><a><a/></a><a/></a>", element("a", element("a", element("a")), element("a"))},
		{"<a><aa/></a>", element("a", element("aa"))},
		{"<aa><a/></aa>", element("aa", element("a"))},
		{`<a b="1"/>`, withAttrs(element("a"), b)},
		{`<a b="1" c="2"/>`, withAttrs(element("a"), b, c)},
		{`<a c="2" b="1"/>`, withAttrs(element("a"), b, c)},
		{`<a c="2" b="1">x</a>`, withAttrs(element("a", text("x")), b, c)},
		{"<a \n b=\"1\"\n\nc=\"2\" \n/>", withAttrs(element("a"), b, c)},
		{"<a b=\"1\" ></a>", withAttrs(element("a"), b)},
		{"<a b=\"1\"\n>x</a\n>", withAttrs(element("a", text("x")), b)},
		{`<a b=" 1 / = "/>`, withAttrs(element("a"), api.Attr{Name: "b", Value: " 1 / = "})},
		{`<a b="" a=""/>`, withAttrs(element("a"), api.Attr{Name: "a"}, api.Attr{Name: "b"})},
		{`<a d="4" b="1" aa="5" c="2"/>`, withAttrs(element("a"), api.Attr{Name: "aa", Value: "5"}, b, c, api.Attr{Name: "d", Value: "4"})},
	} {
		tells(t, p.s, p.want)
	}
}

func TestParseOfWhatTellsNone(t *testing.T) {
	for _, s := range []string{
		"", " ", "\n", "x", "<", ">", "/", "</", "/>", "<>", "</>", "<></>", "<<a/>", "<a", "<a ", "<a/", "<a/>>", "<a>", "<a><", "<a></", "<a></a", "<a></a ", "</a>", "a/>", "<a//>",
		"< a/>", "<\na/>", "<a/ >", "<a / >", "</ a>", "<a></ a>", "<a>< /a>", "<a>< b/></a>",
		"<a/><a/>", "<a/>x", "x<a/>", " <a/>", "<a/> ", "<a/>\n", "<a></a> ", "<a/></a>", "<a></a></a>", "<a><a></a>",
		"<a></b>", "<a></ab>", "<ab></a>", "<a></>", "<a><b></a></b>", "<a></a/>", "<a></a b=\"1\">", "<a></a a>",
		"<A/>", "<aB/>", "<a1/>", "<a-b/>", "<a\t/>", "<a\r\n/>", "<é/>", "<abcdefghi/>", "<abcdefghi></abcdefghi>",
		"<a b/>", "<a b=/>", "<a b=1/>", "<a b='1'/>", `<a b="1'/>`, `<a b"1"/>`, `<a b =""/>`, `<a b= ""/>`, `<a b=""c=""/>`, `<ab=""/>`, `<a =""/>`, `<a ""/>`, `<a B=""/>`, `<a abcdefghi=""/>`, `<a b=="1"/>`, `<a	b="1"/>`, `<a b="1"	c="2"/>`, `<a,b="1"/>`, `<a b="1",c="2"/>`, `<a b="1" / >`, `<a b="1" /`,
		`<a b="1" b="2"/>`, `<a b="1" b="1"/>`, `<a b="1" c="2" b="1"/>`, `<a b="" c="" d="" e="" f=""/>`,
		"<a>x>y</a>", "<a>></a>", "<a>x", "<a>x</b></a>", "<a>\t</a>", "<a>é</a>",
		"<!-- x --><a/>", "<a><!-- x --></a>", "<?xml?><a/>", "<a><![CDATA[x]]></a>",
		strings.Repeat("<a>", 9) + strings.Repeat("</a>", 9),
		strings.Repeat("<a>", 8) + "x" + strings.Repeat("</a>", 8),
		"<a>" + strings.Repeat("x", 41) + "</a>",
		"<a>" + strings.Repeat("&lt;", 41) + "</a>",
		`<a b="` + strings.Repeat("x", 41) + `"/>`,
		"<a>" + strings.Repeat("<b/>", 80) + "</a>",
		strings.Repeat("<a>", 833),
		strings.Repeat("<a>", 312) + "<a/>" + strings.Repeat("</a>", 312),
		strings.Repeat("<", 2500), strings.Repeat(">", 2500), strings.Repeat("&", 2500), strings.Repeat(" ", 2500), "<a" + strings.Repeat(" ", 2498),
		string(make([]byte, api.MaxSource)),
	} {
		parseRefuses(t, s, api.ErrForm)
	}
}

func TestParseAtTheLimits(t *testing.T) {
	tells(t, strings.Repeat("<a>", 7)+"<b/>"+strings.Repeat("</a>", 7), chain(7, element("b")))
	tells(t, strings.Repeat("<a>", 7)+"x"+strings.Repeat("</a>", 7), chain(7, text("x")))
	tells(t, "<a>"+strings.Repeat("<b/>", 79)+"</a>", element("a", many(79, element("b"))...))
	tells(t, "<a>"+strings.Repeat("&quot;", 40)+"</a>", element("a", text(strings.Repeat(`"`, 40))))
	tells(t, `<a b="`+strings.Repeat("x", 40)+`"/>`, withAttrs(element("a"), api.Attr{Name: "b", Value: strings.Repeat("x", 40)}))
}

func TestLongTexts(t *testing.T) {
	for n := api.MaxSource - 2; n <= api.MaxSource; n++ {
		tells(t, "<a"+strings.Repeat(" ", n-4)+"/>", element("a"))
		tells(t, "<a></a"+strings.Repeat("\n", n-7)+">", element("a"))
		textRefuses(t, strings.Repeat("x", n), api.ErrForm)
	}
	for _, n := range []int{api.MaxSource + 1, api.MaxSource + 2, 1 << 20} {
		for _, s := range []string{"<a" + strings.Repeat(" ", n-4) + "/>", strings.Repeat("<", n), string(make([]byte, n)), strings.Repeat("x", n)} {
			parseRefuses(t, s, api.ErrLong)
			contentRefuses(t, s, api.ErrLong)
			textRefuses(t, s, api.ErrLong)
		}
	}
}

// P2.4

func TestContent(t *testing.T) {
	for _, c := range []struct {
		s    string
		want []api.Tree
	}{
		{"", nil},
		{"x", []api.Tree{text("x")}},
		{" ", []api.Tree{text(" ")}},
		{"<a/><a/>", []api.Tree{element("a"), element("a")}},
		{"x<a/>y<b>z</b>", []api.Tree{text("x"), element("a"), text("y"), element("b", text("z"))}},
		{"<a /> <b\n></b >\n", []api.Tree{element("a"), text(" "), element("b"), text("\n")}},
		{`<a c="" b=""/>"&quot;`, []api.Tree{withAttrs(element("a"), api.Attr{Name: "b"}, api.Attr{Name: "c"}), text(`""`)}},
		{strings.Repeat("<b/>", 80), many(80, element("b"))},
		{"<a>" + strings.Repeat("<b/>", 78) + "</a>x", []api.Tree{element("a", many(78, element("b"))...), text("x")}},
		{"x" + strings.Repeat("<a>", 8) + strings.Repeat("</a>", 8), []api.Tree{text("x"), chain(7, element("a"))}},
		{strings.Repeat("&lt;", 40) + "<a/>" + strings.Repeat("x", 40), []api.Tree{text(strings.Repeat("<", 40)), element("a"), text(strings.Repeat("x", 40))}},
	} {
		got, e := Content(c.s)
		if e != api.OK || !sameAll(got, c.want) || !tree.Content(got) {
			t.Errorf("Content(%q) is %+v, %d, not %+v", c.s, got, e, c.want)
		}
	}
	for _, s := range []string{
		"<", ">", "</", "</a>", "x</a>", "<a/></a>", "<a>", "<a></b>", "x>", "<a/>>", "&", "x&y", "\t", "<a/>\t",
		"<A/>", "<abcdefghi/>", "< a/>", "<a/ >", `<a b="" b=""/>`, `x<a b=""c=""/>`, "<a/><b",
		strings.Repeat("x", 41), "<a/>" + strings.Repeat("x", 41), strings.Repeat("<b/>", 81), "<a>" + strings.Repeat("<b/>", 79) + "</a>x",
		"x" + strings.Repeat("<a>", 9) + strings.Repeat("</a>", 9),
	} {
		contentRefuses(t, s, api.ErrForm)
	}
}

func TestText(t *testing.T) {
	for _, c := range []struct{ s, want string }{
		{"", ""},
		{"x", "x"},
		{" \n ", " \n "},
		{`a&lt;b&quot;"`, `a<b""`},
		{strings.Repeat("x", 40), strings.Repeat("x", 40)},
		{strings.Repeat("&quot;", 40), strings.Repeat(`"`, 40)},
	} {
		if got, e := Text(c.s); e != api.OK || got != c.want {
			t.Errorf("Text(%q) is %q, %d, not %q", c.s, got, e, c.want)
		}
	}
	for _, s := range []string{"a<b", "a>b", "<a/>", "&", "x&lt", "\t", "\x00", "é", strings.Repeat("x", 41), strings.Repeat("&lt;", 41), strings.Repeat("x", 40) + "&lt;"} {
		textRefuses(t, s, api.ErrForm)
	}
}

// P2.1 to P2.4, held against a second reader

const markedText = `(?:[\n -%'-;=?-~]|&lt;|&gt;|&amp;|&quot;)`
const markedValue = `(?:[\n !#-%'-;=?-~]|&lt;|&gt;|&amp;|&quot;)`

var (
	textForm  = regexp.MustCompile(`^` + markedText + `+`)
	attrForm  = regexp.MustCompile(`[ \n]+([a-z]{1,8})="(` + markedValue + `*)"`)
	startForm = regexp.MustCompile(`^<([a-z]{1,8})((?:[ \n]+[a-z]{1,8}="` + markedValue + `*")*)[ \n]*(/?)>`)
	endForm   = regexp.MustCompile(`^</([a-z]{1,8})[ \n]*>`)
	unmark    = strings.NewReplacer("&lt;", "<", "&gt;", ">", "&amp;", "&", "&quot;", `"`)
)

// secondContent reads by patterns, with a list of the elements that are open.
func secondContent(s string) ([]api.Tree, bool) {
	open := []api.Tree{{}}
	add := func(t api.Tree) {
		last := &open[len(open)-1]
		last.Kids = append(last.Kids, t)
	}
	for s != "" {
		if m := textForm.FindString(s); m != "" {
			add(text(unmark.Replace(m)))
			s = s[len(m):]
		} else if m := startForm.FindStringSubmatch(s); m != nil {
			t := element(m[1])
			for _, a := range attrForm.FindAllStringSubmatch(m[2], -1) {
				t.Attrs = append(t.Attrs, api.Attr{Name: a[1], Value: unmark.Replace(a[2])})
			}
			slices.SortFunc(t.Attrs, func(a, b api.Attr) int { return strings.Compare(a.Name, b.Name) })
			if m[3] == "/" {
				add(t)
			} else {
				open = append(open, t)
			}
			s = s[len(m[0]):]
		} else if m := endForm.FindStringSubmatch(s); m != nil && open[len(open)-1].S == m[1] {
			t := open[len(open)-1]
			open = open[:len(open)-1]
			add(t)
			s = s[len(m[0]):]
		} else {
			return nil, false
		}
	}
	return open[0].Kids, len(open) == 1 && tree.Content(open[0].Kids)
}

// holds asks all three readers, and is whether s is content.
func holds(t *testing.T, s string) bool {
	t.Helper()
	want, good := secondContent(s)
	got, e := Content(s)
	if good != (e == api.OK) || good && !sameAll(got, want) {
		t.Errorf("Content(%q) is %+v, %d, not %+v, %t", s, got, e, want, good)
	}
	isDoc := good && len(want) == 1 && !want[0].Text
	doc, e := Parse(s)
	if isDoc != (e == api.OK) || isDoc && !tree.Same(doc, want[0]) {
		t.Errorf("Parse(%q) is %+v, %d", s, doc, e)
	}
	if isDoc {
		printed, e := Print(doc)
		again, f := Parse(printed)
		if e != api.OK || f != api.OK || !tree.Same(doc, again) {
			t.Errorf("Parse(Print(Parse(%q))) is %+v, %d, %d", s, again, e, f)
		}
	}
	isText := good && (len(want) == 0 || len(want) == 1 && want[0].Text)
	txt, e := Text(s)
	if isText != (e == api.OK) || isText && len(want) > 0 && txt != want[0].S || (!isText || len(want) == 0) && txt != "" {
		t.Errorf("Text(%q) is %q, %d", s, txt, e)
	}
	return good
}

func TestAllShortTexts(t *testing.T) {
	pieces := []string{"<", ">", "/", "a", "b", " ", "\n", "=", `"`, `="`, "&", "&lt;", "</", "/>", "<a>", "</a>", " b=\"x\""}
	var all func(s string, left int) int
	all = func(s string, left int) int {
		good := 0
		if holds(t, s) {
			good++
		}
		if left == 0 || t.Failed() {
			return good
		}
		for _, p := range pieces {
			good += all(s+p, left-1)
		}
		return good
	}
	if good := all("", 4) + all("<a", 3) + all("<a b", 3) + all("<a>x", 3); good < 1000 {
		t.Errorf("only %d of them are content", good)
	}
}

func TestSpoiltTexts(t *testing.T) {
	random := rand.New(rand.NewSource(2))
	seeds := []string{
		`<a b="1" c="&lt;&quot;">x<b/> "y"<c d=""><e>&amp;</e></c ></a>`,
		"<a\n d=\"1\" c=\"2\"  b=\"3\" a=\"4\" ><b ></b\n>x&gt;y</a>",
		strings.Repeat("<a>", 8) + strings.Repeat("</a>", 8),
		"x<a/>y<b>z</b>" + strings.Repeat("q", 38),
		"<a>" + strings.Repeat("<b/>", 78) + "</a>",
		`<abcdefgh abcdefgh="x"></abcdefgh>`,
	}
	pieces := []string{"<", ">", "/", "a", "b", " ", "\n", "=", `"`, "&", "&lt;", "&quot;", "</", "/>", "<a>", "</a>", "<b/>", " b=\"x\"", "\t", "\x80", "A"}
	good := 0
	for range 60000 {
		s := seeds[random.Intn(len(seeds))]
		for range 1 + random.Intn(3) {
			from := random.Intn(len(s) + 1)
			to := min(len(s), from+random.Intn(3))
			put := ""
			if random.Intn(3) > 0 {
				put = pieces[random.Intn(len(pieces))]
			}
			s = s[:from] + put + s[to:]
		}
		if holds(t, s) {
			good++
		}
		if t.Failed() {
			return
		}
	}
	if good < 5000 {
		t.Errorf("only %d of them are content", good)
	}
}

// randomTree is a right one, at most depth deep.
func randomTree(random *rand.Rand, depth int) api.Tree {
	word := func(letters string, least, most int) string {
		b := make([]byte, least+random.Intn(most-least+1))
		for i := range b {
			b[i] = letters[random.Intn(len(letters))]
		}
		return string(b)
	}
	const signs = "<>&\"' \n~;=/xlt"
	t := element(word("abz", 1, 8))
	for _, name := range []string{"a", "b", "bb", "c"} {
		if random.Intn(3) == 0 {
			t.Attrs = append(t.Attrs, api.Attr{Name: name, Value: word(signs, 0, 9)})
		}
	}
	for range random.Intn(4) {
		if depth > 1 && random.Intn(2) == 0 {
			t.Kids = append(t.Kids, randomTree(random, depth-1))
		} else if depth > 1 && (len(t.Kids) == 0 || !t.Kids[len(t.Kids)-1].Text) {
			t.Kids = append(t.Kids, text(word(signs, 1, 12)))
		}
	}
	return t
}

func TestWhatIsPrintedIsRead(t *testing.T) {
	random := rand.New(rand.NewSource(1))
	for range 3000 {
		tr := randomTree(random, 1+random.Intn(api.MaxDepth))
		s, e := Print(tr)
		if !tree.Good(tr) || e == api.ErrLong {
			continue
		}
		if e != api.OK {
			t.Fatalf("Print(%+v) is %q, %d", tr, s, e)
		}
		tells(t, s, tr)
		if again, e := Print(tr); e != api.OK || again != s {
			t.Errorf("Print of one tree is %q, then %q", s, again)
		}
	}
}
