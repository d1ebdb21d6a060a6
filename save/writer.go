package save

import (
	"joust/api"
	"joust/print"
)

// writer holds the bytes so far, and whether something may not be saved.
type writer struct {
	bytes []byte
	bad   bool
}

func (w *writer) number(n *int) {
	if *n < least || *n > most {
		w.bad = true
		return
	}
	twice := 2 * *n
	if twice < 0 {
		twice = -twice - 1
	}
	for ; twice >= more; twice >>= bits {
		w.bytes = append(w.bytes, byte(more+twice%more))
	}
	w.bytes = append(w.bytes, byte(twice))
}

func (w *writer) small(n *uint8) {
	wide := int(*n)
	w.number(&wide)
}

func (w *writer) truth(is *bool) {
	if *is {
		w.bytes = append(w.bytes, 1)
		return
	}
	w.bytes = append(w.bytes, 0)
}

func (w *writer) kinds(l *[]api.Card) {
	text, e := print.Pool(*l)
	if e != api.OK {
		w.bad = true
		return
	}
	size := len(text)
	w.number(&size)
	w.bytes = append(w.bytes, text...)
}

// size says no behind a fault, too, so that no long list is gone through for nothing.
func (w *writer) size(n int, _ func(n int)) bool {
	if n > mostThings {
		w.bad = true
	}
	w.number(&n)
	return !w.bad
}
