package mark

import (
	"strings"

	"topiary/api"
)

func printed(t api.Tree) string {
	var w strings.Builder
	printTree(&w, t)
	return w.String()
}

func printTree(w *strings.Builder, t api.Tree) {
	if t.Text {
		printMarked(w, t.S, textSigns)
		return
	}
	w.WriteString("<" + t.S)
	for _, a := range t.Attrs {
		w.WriteString(" " + a.Name + `="`)
		printMarked(w, a.Value, valueSigns)
		w.WriteString(`"`)
	}
	if len(t.Kids) == 0 {
		w.WriteString("/>")
		return
	}
	w.WriteString(">")
	for _, k := range t.Kids {
		printTree(w, k)
	}
	w.WriteString("</" + t.S + ">")
}

// printMarked writes a text with marks in the place of signs.
func printMarked(w *strings.Builder, s, signs string) {
	for i := range len(s) {
		if n := strings.IndexByte(signs, s[i]); n >= 0 {
			w.WriteString(marks[n])
		} else {
			w.WriteByte(s[i])
		}
	}
}
