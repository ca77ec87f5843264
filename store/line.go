package store

import (
	"strings"

	"topiary/api"
	"topiary/mark"
	"topiary/path"
)

// words that lines begin with, in the order of the kinds.
var words = [...]string{
	"first", "last", "before", "after", "delete",
	"replace", "value", "rename", "set", "drop",
}

// The signs that part a line.
const (
	gap     = " "
	setSign = "="
)

// noKind is what a word that is none of words stands for.
const noKind = 0

// Line is the change that a line tells, without a target, and the path of its targets.
func Line(s string) (api.Op, []api.Step, api.Errno) {
	if len(s) > api.MaxSource {
		return api.Op{}, nil, api.ErrForm
	}
	// A path has no space in it, and is not empty: a gap that is missing, or
	// one too many, is found by what is cut there.
	word, rest, _ := strings.Cut(s, gap)
	where, said, more := strings.Cut(rest, gap)
	kind := kindOf(word)
	if kind == noKind || more == (kind == api.Delete) {
		return api.Op{}, nil, api.ErrForm
	}
	steps, e := path.Parse(where)
	if e != api.OK {
		return api.Op{}, nil, e
	}
	o, e := changeOf(kind, said)
	if e != api.OK {
		return api.Op{}, nil, e
	}
	return o, steps, api.OK
}

func kindOf(word string) int {
	for i, w := range words {
		if w == word {
			return api.First + i
		}
	}
	return noKind
}

// changeOf is the change of a kind, of which something is said. Whether a name
// is one is asked where the change is done. It is cloned, lest a document keep
// the line that it was told in. With an error, the change is worth nothing.
func changeOf(kind int, said string) (api.Op, api.Errno) {
	o, e := api.Op{Kind: kind}, api.OK
	switch kind {
	case api.First, api.Last, api.Before, api.After, api.Replace:
		o.Content, e = mark.Content(said)
	case api.Value:
		o.S, e = mark.Text(said)
	case api.Rename, api.Drop:
		o.Name = strings.Clone(said)
	case api.Set:
		name, value, found := strings.Cut(said, setSign)
		if !found {
			return o, api.ErrForm
		}
		o.Name = strings.Clone(name)
		o.S, e = mark.Text(value)
	}
	return o, e
}
