package path

import (
	"strconv"
	"strings"

	"topiary/api"
	"topiary/tree"
)

// The signs of a path as text. In a Step, texts have an empty Name instead of
// a sign of their own.
const (
	stepSign   = "/"
	anyElement = "*"
	anyText    = "#"
	openIndex  = "["
	closeIndex = "]"
)

func goodStep(s api.Step) bool {
	if s.N < 0 || s.N > api.MaxIndex {
		return false
	}
	return s.Name == "" || s.Name == anyElement || tree.Named(s.Name)
}

// readStep is the step that a text between two signs tells, and whether it
// tells one; whether that is good is asked of all steps at once.
func readStep(s string) (api.Step, bool) {
	name, index, indexed := strings.Cut(s, openIndex)
	if name == "" {
		return api.Step{}, false
	}
	if name == anyText {
		name = ""
	}
	if !indexed {
		return api.Step{Name: name}, true
	}
	n, ok := readIndex(index)
	return api.Step{Name: name, N: n}, ok
}

// readIndex is the number that stands ahead of the closing sign.
func readIndex(s string) (int, bool) {
	digits, closed := strings.CutSuffix(s, closeIndex)
	n, err := strconv.Atoi(digits)
	// Told again, a number has neither a plus nor noughts in front.
	if !closed || err != nil || n == 0 || strconv.Itoa(n) != digits {
		return 0, false
	}
	return n, true
}

// meant is those of some nodes that a step means.
func meant(nodes []api.Node, some []int, s api.Step) []int {
	var all []int
	for _, n := range some {
		if fits(nodes[n], s.Name) {
			all = append(all, n)
		}
	}
	if s.N == 0 {
		return all
	}
	if s.N > len(all) {
		return nil
	}
	return all[s.N-1 : s.N]
}

// fits is whether a node is one that a step's Name is for, whichever in order it is.
func fits(node api.Node, name string) bool {
	if node.Text {
		return name == ""
	}
	// Elements of a good document are Named, so that an empty Name is for none of them.
	return name == anyElement || name == node.S
}
