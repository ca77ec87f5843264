package tree

import "topiary/api"

// roomBehind is how many more trees there is room for behind right ones that
// stand beside one another, and -1 if they are not right, deeper than depth,
// or more than room. It stops at the first that is too many, so that even a
// tree without an end is soon refused.
func roomBehind(l []api.Tree, depth, room int) int {
	if len(l) == 0 {
		return room
	}
	if depth == 0 || len(l) > room {
		return -1
	}
	room -= len(l)
	for i, t := range l {
		if !rightAlone(t) || i > 0 && t.Text && l[i-1].Text {
			return -1
		}
		room = roomBehind(t.Kids, depth-1, room)
		if room < 0 {
			return -1
		}
	}
	return room
}

// rightAlone is whether a tree is right, whatever the kids of an element are.
func rightAlone(t api.Tree) bool {
	if t.Text {
		return t.S != "" && Plain(t.S) && len(t.Attrs) == 0 && len(t.Kids) == 0
	}
	return Named(t.S) && GoodAttrs(t.Attrs)
}
