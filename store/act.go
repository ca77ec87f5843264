package store

import (
	"topiary/api"
	"topiary/change"
	"topiary/doc"
	"topiary/mark"
	"topiary/path"
)

func refusal(e api.Errno) api.Reply { return api.Reply{Code: e} }

func (s *Store) load(lines []string) api.Reply {
	if len(lines) != 1 {
		return refusal(api.ErrForm)
	}
	t, e := mark.Parse(lines[0])
	if e != api.OK {
		return refusal(e)
	}
	d, e := doc.Make(t)
	if e != api.OK {
		return refusal(e)
	}
	s.doc = d
	return api.Reply{N: len(d.Nodes)}
}

func (s *Store) show() api.Reply {
	t, e := doc.Tree(s.doc, 0)
	if e != api.OK {
		return refusal(e)
	}
	text, e := mark.Print(t)
	if e != api.OK {
		return refusal(e)
	}
	return api.Reply{N: len(s.doc.Nodes), Text: text}
}

func (s *Store) alter(lines []string) api.Reply {
	if len(lines) > api.MaxCmds {
		return refusal(api.ErrLong)
	}
	l, e := changes(s.doc, lines)
	if e != api.OK {
		return refusal(e)
	}
	d, e := change.Apply(s.doc, l)
	if e != api.OK {
		return refusal(e)
	}
	s.doc = d
	return api.Reply{N: len(l)}
}

// changes is what lines say of a document. All paths are of that document, as
// it is ahead of every change.
func changes(d api.Doc, lines []string) ([]api.Op, api.Errno) {
	var all []api.Op
	for _, line := range lines {
		o, steps, e := Line(line)
		if e != api.OK {
			return nil, e
		}
		targets, e := path.Select(d, steps)
		if e != api.OK {
			return nil, e
		}
		if len(targets) == 0 {
			return nil, api.ErrNone
		}
		all = append(all, aimed(o, targets)...)
	}
	return all, api.OK
}

// aimed is a change once for each target.
func aimed(o api.Op, targets []int) []api.Op {
	var l []api.Op
	for _, n := range targets {
		o.Target = n
		l = append(l, o)
	}
	return l
}
