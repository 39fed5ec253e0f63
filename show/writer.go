package show

import (
	"strings"

	"vestry/api"
)

// writer writes a text of at most MaxText bytes.
type writer struct {
	strings.Builder
	long bool // more would be written than there is room for; nothing is written any more
}

// add writes a text. It is measured ahead of the copy: a name that may not be can have any number of bytes.
func (w *writer) add(s string) {
	w.long = w.long || w.Len()+len(s) > api.MaxText
	if !w.long {
		w.WriteString(s)
	}
}

// put writes texts, one behind the other.
func (w *writer) put(texts ...string) {
	for _, s := range texts {
		w.add(s)
	}
}

// list writes parts with a text between them, as far as there is room.
func list[T any](w *writer, between string, parts []T, write func(T)) {
	for i, part := range parts {
		if w.long {
			return
		}
		if i > 0 {
			w.add(between)
		}
		write(part)
	}
}

// lines writes items, each with its line's end, as far as there is room.
func lines[T any](w *writer, items []T, write func(T)) {
	for _, item := range items {
		if w.long {
			return
		}
		write(item)
		w.add("\n")
	}
}
