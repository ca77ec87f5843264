package mark

import (
	"slices"
	"strings"

	"topiary/api"
)

const (
	spaces    = " \n"
	textEnds  = `<>`
	valueEnds = `<>"`
)

// reader: what is still to be read, and whether something went wrong. It
// remembers that, and no word is ahead any more, so that whoever reads need
// ask at the end alone.
type reader struct {
	rest  string
	wrong bool
}

// allRead is what read answers, if it read all there is and that is good.
func allRead[T any](r *reader, read func() T, good func(T) bool) (T, api.Errno) {
	var none T
	if len(r.rest) > api.MaxSource {
		return none, api.ErrLong
	}
	answer := read()
	if r.wrong || r.rest != "" || !good(answer) {
		return none, api.ErrForm
	}
	return answer, api.OK
}

// readWhile is all that read answers while there is more of it.
func readWhile[T any](more func() bool, read func() T) []T {
	var l []T
	for more() {
		l = append(l, read())
	}
	return l
}

func (r *reader) ahead(word string) bool {
	return !r.wrong && strings.HasPrefix(r.rest, word)
}

// take is whether the word was ahead, which is read then.
func (r *reader) take(word string) bool {
	if !r.ahead(word) {
		return false
	}
	r.rest = r.rest[len(word):]
	return true
}

func (r *reader) must(word string) {
	if !r.take(word) {
		r.wrong = true
	}
}

func (r *reader) skipSpaces() {
	r.rest = strings.TrimLeft(r.rest, spaces)
}

// name reads letters, however many: whether they are a name is asked of the
// whole tree. They are cloned, lest a tree keep the text that it was told in.
func (r *reader) name() string {
	n := 0
	for n < len(r.rest) && isLetter(r.rest[n]) {
		n++
	}
	name := strings.Clone(r.rest[:n])
	r.rest = r.rest[n:]
	return name
}

func isLetter(c byte) bool { return c >= 'a' && c <= 'z' }

// trees reads up to an end, or up to what no tree begins with.
func (r *reader) trees() []api.Tree {
	return readWhile(r.treeAhead, r.tree)
}

// treeAhead leaves out all that tree would take nothing of: else reading
// might not come to an end.
func (r *reader) treeAhead() bool {
	return !r.wrong && r.rest != "" && !r.ahead("</") && !r.ahead(">")
}

func (r *reader) tree() api.Tree {
	if r.ahead("<") {
		return r.element()
	}
	return api.Tree{Text: true, S: r.text()}
}

func (r *reader) element() api.Tree {
	r.must("<")
	t := api.Tree{S: r.name()}
	t.Attrs = readWhile(r.attrAhead, r.attr)
	slices.SortFunc(t.Attrs, func(a, b api.Attr) int { return strings.Compare(a.Name, b.Name) })
	r.skipSpaces()
	if r.take("/>") {
		return t
	}
	r.must(">")
	t.Kids = r.trees()
	r.must("</")
	r.must(t.S)
	r.skipSpaces()
	r.must(">")
	return t
}

// attrAhead is whether spaces are ahead, and then a letter: spaces may also
// stand ahead of the end of a tag.
func (r *reader) attrAhead() bool {
	behind := strings.TrimLeft(r.rest, spaces)
	return !r.wrong && len(behind) < len(r.rest) && behind != "" && isLetter(behind[0])
}

func (r *reader) attr() api.Attr {
	r.skipSpaces()
	a := api.Attr{Name: r.name()}
	r.must(`="`)
	a.Value = r.meant(valueEnds)
	r.must(`"`)
	return a
}

func (r *reader) text() string { return r.meant(textEnds) }

// meant reads a marked text up to the first of ends, and is that text as it
// is meant.
func (r *reader) meant(ends string) string {
	var w strings.Builder
	for !r.wrong && r.rest != "" && strings.IndexByte(ends, r.rest[0]) < 0 {
		w.WriteByte(r.sign())
	}
	return w.String()
}

// sign reads a byte, or a mark in the place of one. There must be more to
// read.
func (r *reader) sign() byte {
	for i, m := range marks {
		if r.take(m) {
			return valueSigns[i]
		}
	}
	c := r.rest[0]
	if c == '&' {
		r.wrong = true
		return c
	}
	r.rest = r.rest[1:]
	return c
}
