package save

import (
	"joust/api"
	"joust/parse"
	"joust/print"
)

// reader holds the bytes that are left, and whether something can't be what a writer wrote. Behind a fault it goes on, but makes room for nothing.
type reader struct {
	left []byte
	bad  bool
}

func (r *reader) need(ok bool) {
	if !ok {
		r.bad = true
	}
}

// next is 0 where there is no byte left.
func (r *reader) next() byte {
	r.need(len(r.left) > 0)
	if len(r.left) == 0 {
		return 0
	}
	b := r.left[0]
	r.left = r.left[1:]
	return b
}

func (r *reader) number(n *int) {
	const longest = 4 * bits // no number that may be has bits further up than the byte there
	twice, up, b := 0, 0, r.next()
	for ; b >= more && up < longest; b = r.next() {
		twice += int(b-more) << up
		up += bits
	}
	twice += int(b) << up
	isNeedless := b == 0 && up > 0
	r.need(b < more && !isNeedless && twice <= 2*most)
	*n = twice / 2
	if twice%2 == 1 {
		*n = -1 - *n
	}
}

func (r *reader) small(n *uint8) {
	var wide int
	r.number(&wide)
	*n = uint8(wide)
	r.need(int(*n) == wide)
}

func (r *reader) truth(is *bool) {
	b := r.next()
	r.need(b <= 1)
	*is = b == 1
}

// kinds holds what print writes against the text, as parse reads other texts as the same kinds.
func (r *reader) kinds(l *[]api.Card) {
	var size int
	r.number(&size)
	r.need(0 <= size && size <= len(r.left))
	if r.bad {
		return
	}
	text := string(r.left[:size])
	r.left = r.left[size:]
	read, fault := parse.Pool(text)
	again, e := print.Pool(read)
	r.need(fault.E == api.OK && e == api.OK && again == text)
	*l = read
}

func (r *reader) size(n int, makeRoom func(n int)) bool {
	r.number(&n)
	r.need(0 <= n && n <= mostThings)
	if !r.bad && n > 0 {
		makeRoom(n)
	}
	return !r.bad
}
