package tree

import (
	"reflect"
	"runtime/debug"
	"slices"
	"strings"
	"testing"

	"topiary/api"
)

func text(s string) api.Tree { return api.Tree{Text: true, S: s} }

func element(name string, kids ...api.Tree) api.Tree { return api.Tree{S: name, Kids: kids} }

func withAttrs(t api.Tree, attrs ...api.Attr) api.Tree {
	t.Attrs = attrs
	return t
}

// chain is elements one in the other, with t innermost.
func chain(levels int, t api.Tree) api.Tree {
	for range levels {
		t = element("a", t)
	}
	return t
}

func many(n int, t api.Tree) []api.Tree { return slices.Repeat([]api.Tree{t}, n) }

// P1.1

func TestNamed(t *testing.T) {
	for _, s := range []string{"a", "z", "m", "az", "topiary", "abcdefgh", "zzzzzzzz"} {
		if !Named(s) {
			t.Errorf("Named(%q) is false", s)
		}
	}
	for _, s := range []string{"", "abcdefghi", "A", "aB", "Ba", "a1", "1", "a b", " a", "a ", "a\n", "a-b", "*", "#", "é", "a\x00", "\xff", strings.Repeat("a", 1000)} {
		if Named(s) {
			t.Errorf("Named(%q) is true", s)
		}
	}
	for b := range 256 {
		want := b >= 'a' && b <= 'z'
		one := string([]byte{byte(b)})
		for _, s := range []string{one, "b" + one, one + "b", "bcd" + one + "efg"} {
			if Named(s) != want {
				t.Errorf("Named(%q) is not %t", s, want)
			}
		}
	}
}

func TestPlain(t *testing.T) {
	for _, s := range []string{"", " ", "\n", "~", "a b\nc", "<&>\"", strings.Repeat("x", 40), strings.Repeat("\n", 40)} {
		if !Plain(s) {
			t.Errorf("Plain(%q) is false", s)
		}
	}
	for _, s := range []string{"\t", "\r\n", "\x00", "\x1f", "\x7f", "\x80", "é", strings.Repeat("x", 41), strings.Repeat("x", 39) + "é", strings.Repeat("x", 39) + "\t"} {
		if Plain(s) {
			t.Errorf("Plain(%q) is true", s)
		}
	}
	for b := range 256 {
		want := b >= 32 && b <= 126 || b == 10
		one := string([]byte{byte(b)})
		for _, s := range []string{one, "b" + one, one + "b"} {
			if Plain(s) != want {
				t.Errorf("Plain(%q) is not %t", s, want)
			}
		}
	}
}

// P1.2

func TestGoodAttrs(t *testing.T) {
	good := [][]api.Attr{
		nil,
		{},
		{{Name: "a"}},
		{{Name: "a", Value: "x"}, {Name: "b", Value: "x"}},
		{{Name: "a"}, {Name: "aa"}, {Name: "ab"}, {Name: "b"}},
		{{Name: "abcdefgh", Value: strings.Repeat("\n", 40)}},
	}
	for _, l := range good {
		if !GoodAttrs(l) {
			t.Errorf("GoodAttrs(%q) is false", l)
		}
	}
	bad := [][]api.Attr{
		{{}},
		{{Name: "", Value: "x"}},
		{{Name: "A"}},
		{{Name: "abcdefghi"}},
		{{Name: "a", Value: "\t"}},
		{{Name: "a", Value: strings.Repeat("x", 41)}},
		{{Name: "b"}, {Name: "a"}},
		{{Name: "a"}, {Name: "a"}},
		{{Name: "a", Value: "x"}, {Name: "a", Value: "y"}},
		{{Name: "b"}, {Name: "aa"}},
		{{Name: "aa"}, {Name: "a"}},
		{{Name: "a"}, {Name: "c"}, {Name: "b"}},
		{{Name: "a"}, {Name: "b"}, {Name: "c"}, {Name: "c"}},
		{{Name: "a"}, {Name: "b"}, {Name: "c"}, {Name: "D"}},
		{{Name: "a"}, {Name: "b"}, {Name: "c"}, {Name: "d", Value: "\x7f"}},
		{{Name: "a"}, {Name: "b"}, {Name: "c"}, {Name: "d"}, {Name: "e"}},
	}
	for _, l := range bad {
		if GoodAttrs(l) {
			t.Errorf("GoodAttrs(%q) is true", l)
		}
	}
}

// P1.3

func TestSize(t *testing.T) {
	for _, c := range []struct {
		tree         api.Tree
		depth, count int
	}{
		{api.Tree{}, 1, 1},
		{text("x"), 1, 1},
		{element("a"), 1, 1},
		{api.Tree{S: "a", Kids: []api.Tree{}}, 1, 1},
		{withAttrs(element("a"), api.Attr{Name: "b"}), 1, 1},
		{element("a", text("x")), 2, 2},
		{element("a", text("x"), element("b", text("y"))), 3, 4},
		{element("a", element("b", element("c"), text("x")), element("d")), 3, 5},
		{element("a", element("b"), element("c", element("d", element("e"))), element("f")), 4, 6},
		{element("a", many(200, text(""))...), 2, 201},
		{api.Tree{Text: true, Kids: []api.Tree{{Text: true, Kids: []api.Tree{{}}}}}, 3, 3},
		{chain(20, text("x")), 21, 21},
	} {
		if depth, count := Size(c.tree); depth != c.depth || count != c.count {
			t.Errorf("Size(%+v) is %d, %d, not %d, %d", c.tree, depth, count, c.depth, c.count)
		}
	}
}

// P1.4

func TestGoodAndContentOfOne(t *testing.T) {
	attr := api.Attr{Name: "b", Value: "x"}
	for _, c := range []struct {
		say   string
		right bool
		tree  api.Tree
	}{
		{"an element", true, element("a")},
		{"an element with a list of no kids and one of no attributes", true, api.Tree{S: "a", Attrs: []api.Attr{}, Kids: []api.Tree{}}},
		{"an element with an attribute", true, withAttrs(element("a"), attr)},
		{"an element with all there may be", true, withAttrs(element("a", text("x"), element("b", text("y")), text("z")), attr)},
		{"texts with an element between", true, element("a", text("x"), element("b"), text("y"))},
		{"texts in elements beside one another", true, element("a", element("b", text("x")), element("c", text("y")))},
		{"a text of 40 bytes", true, element("a", text(strings.Repeat("x", 40)))},
		{"a name of 8 letters", true, element("abcdefgh")},
		{"an element of 8 levels", true, chain(7, element("b"))},
		{"an element of 8 levels, the last a text", true, chain(7, text("x"))},
		{"80 trees", true, element("a", many(79, element("b"))...)},
		{"nothing", false, api.Tree{}},
		{"a name that is none", false, element("A")},
		{"a name of 9 letters", false, element("abcdefghi")},
		{"attributes that fall", false, withAttrs(element("a"), attr, api.Attr{Name: "a"})},
		{"a kid without a name", false, element("a", element("b"), element(""))},
		{"a kid with a bad attribute", false, element("a", withAttrs(element("b"), attr, attr))},
		{"an empty text", false, element("a", text(""))},
		{"a text that is not plain", false, element("a", text("\t"))},
		{"a text of 41 bytes", false, element("a", text(strings.Repeat("x", 41)))},
		{"a text with an attribute", false, element("a", withAttrs(text("x"), attr))},
		{"a text with a kid", false, element("a", api.Tree{Text: true, S: "x", Kids: []api.Tree{element("b")}})},
		{"two texts at the beginning", false, element("a", text("x"), text("y"), element("b"))},
		{"two texts at the end", false, element("a", element("b"), text("x"), text("y"))},
		{"two texts far in", false, chain(6, element("b", text("x"), text("y")))},
		{"an empty text far in", false, chain(7, text(""))},
		{"an element of 9 levels", false, chain(8, element("b"))},
		{"an element of 9 levels, the last a text", false, chain(8, text("x"))},
		{"9 levels behind other kids", false, element("a", element("b"), chain(7, text("x")))},
		{"81 trees", false, element("a", many(80, element("b"))...)},
		{"81 trees in all, two by two", false, element("a", many(40, element("b", element("c")))...)},
	} {
		if Good(c.tree) != c.right {
			t.Errorf("Good of %s is not %t", c.say, c.right)
		}
		if Content([]api.Tree{c.tree}) != c.right {
			t.Errorf("Content of %s is not %t", c.say, c.right)
		}
	}
}

func TestGoodIsNoText(t *testing.T) {
	if Good(text("x")) {
		t.Error("a text is good")
	}
	if !Content([]api.Tree{text("x")}) {
		t.Error("a text is no content")
	}
}

func TestContent(t *testing.T) {
	x, b := text("x"), element("b")
	deep := chain(7, b)
	for _, c := range []struct {
		say  string
		want bool
		list []api.Tree
	}{
		{"nothing", true, nil},
		{"a list of nothing", true, []api.Tree{}},
		{"a text and an element", true, []api.Tree{x, b}},
		{"texts with an element between", true, []api.Tree{x, b, x}},
		{"deep ones", true, []api.Tree{deep, x, deep}},
		{"80 trees", true, many(80, b)},
		{"80 trees in all", true, many(40, element("a", x))},
		{"two texts", false, []api.Tree{x, x}},
		{"two texts at the end", false, []api.Tree{b, x, x}},
		{"an empty text", false, []api.Tree{b, text("")}},
		{"a text that is not plain", false, []api.Tree{b, text("\x7f")}},
		{"a text with a list of attributes", false, []api.Tree{withAttrs(x, api.Attr{Name: "a"})}},
		{"a text with a kid", false, []api.Tree{{Text: true, S: "x", Kids: []api.Tree{x}}}},
		{"an element without a name", false, []api.Tree{b, element("")}},
		{"one that is too deep", false, []api.Tree{b, chain(1, deep)}},
		{"81 trees", false, many(81, b)},
		{"82 trees in all", false, many(41, element("a", x))},
		{"81 trees in all, the last too many", false, append(many(40, element("a", x)), b)},
		{"very many trees", false, many(100000, b)},
	} {
		if Content(c.list) != c.want {
			t.Errorf("Content of %s is not %t", c.say, c.want)
		}
	}
}

// P1.5

func TestSame(t *testing.T) {
	p, q := api.Attr{Name: "p", Value: "x"}, api.Attr{Name: "q", Value: "x"}
	unlike := []api.Tree{
		{},
		text(""),
		text("a"),
		element("a"),
		element("b"),
		withAttrs(element("a"), p),
		withAttrs(element("a"), q),
		withAttrs(element("a"), p, q),
		withAttrs(element("a"), q, p),
		withAttrs(element("a"), api.Attr{Name: "p", Value: "y"}),
		withAttrs(text("a"), p),
		element("a", text("a")),
		element("a", element("a")),
		element("a", element("b")),
		element("a", element("a"), element("b")),
		element("a", element("b"), element("a")),
		element("a", element("a", element("b"))),
		element("a", text("a"), text("b")),
		element("a", text("ab")),
		element("a", text("ab"), text("")),
		{Text: true, S: "a", Kids: []api.Tree{text("a")}},
		chain(12, text("x")),
		chain(12, text("y")),
		chain(11, text("x")),
	}
	for i, a := range unlike {
		for k, b := range unlike {
			if Same(a, copied(b)) != (i == k) {
				t.Errorf("Same(%+v, %+v) is not %t", a, b, i == k)
			}
		}
	}
	if !Same(element("a"), api.Tree{S: "a", Attrs: []api.Attr{}, Kids: []api.Tree{}}) {
		t.Error("a list without elements is not like nil")
	}
}

// copied is a tree like t that shares no list with it.
func copied(t api.Tree) api.Tree {
	t.Attrs = slices.Clone(t.Attrs)
	t.Kids = slices.Clone(t.Kids)
	for i := range t.Kids {
		t.Kids[i] = copied(t.Kids[i])
	}
	return t
}

func alikeLists(a, b []api.Tree) bool { return slices.EqualFunc(a, b, Same) }

func TestJoined(t *testing.T) {
	p, q := api.Attr{Name: "p"}, api.Attr{Name: "q"}
	textOf := func(s string, a api.Attr, kids ...api.Tree) api.Tree {
		return api.Tree{Text: true, S: s, Attrs: []api.Attr{a}, Kids: kids}
	}
	for _, c := range []struct {
		say        string
		list, want []api.Tree
	}{
		{"nothing", nil, nil},
		{"an empty text", []api.Tree{text("")}, nil},
		{"empty texts", many(3, text("")), nil},
		{"one text", []api.Tree{text("a")}, []api.Tree{text("a")}},
		{"two texts", []api.Tree{text("b"), text("a")}, []api.Tree{text("ba")}},
		{"an empty one ahead", []api.Tree{text(""), text("a")}, []api.Tree{text("a")}},
		{"an empty one behind", []api.Tree{text("a"), text("")}, []api.Tree{text("a")}},
		{"an empty one between", []api.Tree{text("a"), text(""), text("b")}, []api.Tree{text("ab")}},
		{"an element between", []api.Tree{text("a"), element("b"), text("c")}, []api.Tree{text("a"), element("b"), text("c")}},
		{"an element and empty ones between", []api.Tree{text("a"), text(""), element("b"), text(""), text("c")}, []api.Tree{text("a"), element("b"), text("c")}},
		{"elements, an empty one between", []api.Tree{element("b"), text(""), element("b")}, []api.Tree{element("b"), element("b")}},
		{"elements alike", []api.Tree{element("b"), element("b")}, []api.Tree{element("b"), element("b")}},
		{"elements without a name", []api.Tree{element(""), element("")}, []api.Tree{element(""), element("")}},
		{"two runs", []api.Tree{text("a"), text("b"), element("c"), text("d"), text("e")}, []api.Tree{text("ab"), element("c"), text("de")}},
		{"kids", []api.Tree{element("a", text("b"), text("c"))}, []api.Tree{element("a", text("bc"))}},
		{"kids that go", []api.Tree{element("a", text(""))}, []api.Tree{element("a")}},
		{"kids far in", []api.Tree{chain(20, element("a", text("b"), text(""), text("c")))}, []api.Tree{chain(20, element("a", text("bc")))}},
		{"texts of neighbours' kids", []api.Tree{element("a", text("b")), element("a", text("c"))}, []api.Tree{element("a", text("b")), element("a", text("c"))}},
		{"more than a text may have", many(2, text(strings.Repeat("x", 40))), []api.Tree{text(strings.Repeat("x", 80))}},
		{"an element's attributes", []api.Tree{withAttrs(element("a"), q, p)}, []api.Tree{withAttrs(element("a"), q, p)}},
		{"all else is the first one's", []api.Tree{textOf("a", p, text("c"), text("d")), textOf("b", q, text("e"))}, []api.Tree{textOf("ab", p, text("cd"))}},
		{"all else is the first one's that is not empty", []api.Tree{textOf("", p, text("c")), textOf("a", q, text("d"), text("e")), textOf("b", p)}, []api.Tree{textOf("ab", q, text("de"))}},
		{"a plain first one", []api.Tree{text("a"), textOf("b", q, text("e"))}, []api.Tree{text("ab")}},
		{"an empty text with kids", []api.Tree{textOf("", p, element("b"))}, nil},
	} {
		if got := Joined(c.list); !alikeLists(got, c.want) {
			t.Errorf("%s: Joined(%+v) is %+v", c.say, c.list, got)
		}
	}
}

// joinedSimply says the promise in another way: empty texts go first.
func joinedSimply(l []api.Tree) []api.Tree {
	var out []api.Tree
	for _, t := range l {
		last := len(out) - 1
		if t.Text && t.S == "" {
			continue
		}
		if t.Text && last >= 0 && out[last].Text {
			out[last].S += t.S
			continue
		}
		t.Kids = joinedSimply(t.Kids)
		out = append(out, t)
	}
	return out
}

func TestJoinedOfAllShortLists(t *testing.T) {
	attr := []api.Attr{{Name: "p"}}
	of := []api.Tree{
		text(""),
		text("a"),
		{Text: true, S: "b", Attrs: attr, Kids: []api.Tree{text("c"), text("d")}},
		element("e"),
		element("f", text("g"), text(""), text("h"), element("i")),
	}
	lists := [][]api.Tree{nil}
	for at := 0; at < len(lists) && len(lists[at]) < 5; at++ {
		for _, one := range of {
			lists = append(lists, append(slices.Clip(slices.Clone(lists[at])), one))
		}
	}
	for _, l := range lists {
		got := Joined(l)
		if !alikeLists(got, joinedSimply(l)) {
			t.Fatalf("Joined(%+v) is %+v", l, got)
		}
		if !alikeLists(Joined(got), got) {
			t.Fatalf("Joined(%+v) is joined yet again", l)
		}
	}
}

func TestJoinedOfVeryManyTexts(t *testing.T) {
	l := Joined(many(1000000, text("x")))
	if len(l) != 1 || l[0].S != strings.Repeat("x", 1000000) {
		t.Error("they are not one")
	}
}

// What holds everywhere.

func TestListsHandedInStay(t *testing.T) {
	spare := func(l ...api.Tree) []api.Tree { return append(l, text("spare"))[:len(l)] }
	attrs := []api.Attr{{Name: "p"}, {Name: "spare"}}[:1]
	kids := spare(text("a"), text(""), text("b"))
	list := spare(
		api.Tree{Text: true, S: "c", Attrs: attrs, Kids: kids},
		text("d"), text(""),
		api.Tree{S: "e", Attrs: attrs, Kids: kids},
	)
	whole := element("", list[:cap(list)]...)
	before, kidsBefore := copied(whole), copied(element("", kids[:cap(kids)]...))

	GoodAttrs(attrs)
	Size(whole)
	Good(whole)
	Content(list)
	Same(whole, before)
	for _, t := range Joined(list) {
		spoil(t)
	}
	for _, a := range append(Joined(list), text("more")) {
		spoil(a)
	}

	if !reflect.DeepEqual(whole, before) {
		t.Errorf("the list is now %+v", whole)
	}
	if got := element("", kids[:cap(kids)]...); !reflect.DeepEqual(got, kidsBefore) {
		t.Errorf("the kids are now %+v", got)
	}
	if attrs[:2][1].Name != "spare" {
		t.Errorf("the attributes are now %+v", attrs[:2])
	}
}

// spoil writes into all lists of a tree and into their spare room.
func spoil(t api.Tree) {
	for i := range t.Kids {
		spoil(t.Kids[i])
	}
	clear(t.Kids[:cap(t.Kids)])
	clear(t.Attrs[:cap(t.Attrs)])
}

// A smaller stack shows with small trees what would happen to very deep ones.
func TestDeepTrees(t *testing.T) {
	defer debug.SetMaxStack(debug.SetMaxStack(4 << 20))
	for _, levels := range []int{reach - 2, reach - 1, reach, reach + 1, 2*reach - 1, 2 * reach, 2*reach + 1, 300000} {
		bush := element("b", text("x"), text(""), text("y"), element("c", text("z")))
		deep, other := chain(levels, bush), chain(levels, element("b", text("xy"), element("c", text("z"))))
		if depth, count := Size(deep); depth != levels+3 || count != levels+6 {
			t.Errorf("Size at %d is %d, %d", levels, depth, count)
		}
		if Good(deep) || Content([]api.Tree{deep}) {
			t.Errorf("good at %d", levels)
		}
		if !Same(deep, chain(levels, bush)) || Same(deep, other) || Same(deep, chain(levels+1, bush)) {
			t.Errorf("Same at %d", levels)
		}
		if l := Joined([]api.Tree{deep, deep}); len(l) != 2 || !Same(l[0], other) || !Same(l[1], other) {
			t.Errorf("Joined at %d", levels)
		}
	}
}

func TestBranchesBeyondReach(t *testing.T) {
	deep := chain(reach, element("b", text("x"), element("c", text("y"), text("z"))))
	l := []api.Tree{deep, text("p"), deep, text("q"), text("r"), deep}
	want := chain(reach, element("b", text("x"), element("c", text("yz"))))
	if depth, count := Size(element("a", l...)); depth != reach+4 || count != 3*(reach+5)+4 {
		t.Errorf("Size is %d, %d", depth, count)
	}
	if got := Joined(l); !alikeLists(got, []api.Tree{want, text("p"), want, text("qr"), want}) {
		t.Error("Joined")
	}
	for i := range l {
		other := slices.Clone(l)
		other[i] = chain(reach, element("b", text("x"), element("c", text("y"), text("!"))))
		if Same(element("a", l...), element("a", other...)) {
			t.Errorf("Same, though kid %d is another", i)
		}
	}
}

func TestGoodOfTreeWithoutEnd(t *testing.T) {
	endless := []api.Tree{{S: "a"}}
	endless[0].Kids = endless
	if Good(endless[0]) || Content(endless) {
		t.Error("a tree without an end is good")
	}
	huge := element("a")
	for range 30 {
		huge = element("a", many(100, huge)...)
	}
	if Good(huge) || Content(huge.Kids) {
		t.Error("a huge tree is good")
	}
}
