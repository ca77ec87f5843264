package change

import (
	"topiary/api"
	"topiary/tree"
)

// wrongWith is what is wrong with a change of nodes that are a good
// document's.
func wrongWith(nodes []api.Node, o api.Op) api.Errno {
	switch {
	case o.Kind < api.First || o.Kind > api.Drop:
		return api.ErrKind
	case o.Target < 0 || o.Target >= len(nodes):
		return api.ErrNone
	case !rightContent(o) || !rightName(o) || !rightS(o):
		return api.ErrForm
	case o.Target == 0 && ofPlace(o.Kind):
		return api.ErrRoot
	case nodes[o.Target].Text && !ofPlace(o.Kind) && o.Kind != api.Value:
		return api.ErrKind
	}
	return api.OK
}

// ofPlace is whether a kind is about what stands in the place of a node,
// which the root must keep.
func ofPlace(kind int) bool {
	switch kind {
	case api.Before, api.After, api.Delete, api.Replace:
		return true
	}
	return false
}

func rightContent(o api.Op) bool {
	switch o.Kind {
	case api.First, api.Last, api.Before, api.After, api.Replace:
		return tree.Content(o.Content)
	}
	return len(o.Content) == 0
}

func rightName(o api.Op) bool {
	switch o.Kind {
	case api.Rename, api.Set, api.Drop:
		return tree.Named(o.Name)
	}
	return o.Name == ""
}

func rightS(o api.Op) bool {
	switch o.Kind {
	case api.Value, api.Set:
		return tree.Plain(o.S)
	}
	return o.S == ""
}
