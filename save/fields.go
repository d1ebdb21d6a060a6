package save

import "joust/api"

// A duel's numbers are least to most; its lists have at most mostThings.
const (
	least      = -1 << 31
	most       = 1 << 31
	mostThings = 4096
)

// A byte of a number has its bits below more, and is more or above it if another one follows.
const (
	bits = 7
	more = 1 << bits
)

// carrier takes fields one by one, in their order: a writer to bytes, so that what it is pointed at stays as it is, a reader from bytes.
type carrier interface {
	number(n *int)
	small(n *uint8)
	truth(is *bool)
	kinds(l *[]api.Card)
	// size takes how many things a list has; a reader makes room for them. It says no, if they are not to be gone through.
	size(n int, makeRoom func(n int)) bool
}

// list takes how many things there are, then them.
func list[T any](c carrier, l *[]T, one func(carrier, *T)) {
	ok := c.size(len(*l), func(n int) { *l = make([]T, n) })
	for i := 0; ok && i < len(*l); i++ {
		one(c, &(*l)[i])
	}
}

func duel(c carrier, d *api.Duel) {
	table(c, &d.Table)
	c.small(&d.Stage)
	c.small(&d.Then)
	c.truth(&d.Second)
	c.truth(&d.Summoned)
	list(c, &d.Links, link)
	list(c, &d.Recent, event)
	list(c, &d.Waits, ready)
	c.small(&d.Asked)
	c.number(&d.Passes)
	c.truth(&d.Due)
	c.truth(&d.Trying)
	c.number(&d.Try)
	c.truth(&d.Negated)
	c.number(&d.Attacker)
	c.number(&d.Target)
	list(c, &d.Dies, carrier.number)
	ready(c, &d.Choice.Ready)
	list(c, &d.Choice.Picks, carrier.number)
	c.truth(&d.Ordered)
	c.number(&d.Lots)
	c.small(&d.Whose)
	c.number(&d.Rounds)
	c.small(&d.Reason)
	c.small(&d.Winner)
}

func table(c carrier, t *api.Table) {
	c.kinds(&t.Kinds)
	list(c, &t.Pieces, piece)
	c.number(&t.Life[0])
	c.number(&t.Life[1])
	c.number(&t.Turn)
	c.small(&t.Player)
	c.number(&t.Moment)
	list(c, &t.Events, event)
	c.truth(&t.Lost[0])
	c.truth(&t.Lost[1])
}

func piece(c carrier, p *api.Piece) {
	c.number(&p.Def)
	c.number(&p.Attack)
	c.number(&p.Guard)
	c.small(&p.Owner)
	c.small(&p.Has)
	c.small(&p.Zone)
	c.number(&p.At)
	c.truth(&p.Up)
	c.truth(&p.Low)
	c.number(&p.Since)
	c.small(&p.Used)
	c.truth(&p.Struck)
	c.truth(&p.Turned)
	c.number(&p.Boost)
}

func event(c carrier, e *api.Event) {
	c.small(&e.Ev)
	c.number(&e.Moment)
	c.number(&e.Piece)
	c.small(&e.Who)
}

func link(c carrier, l *api.Link) {
	c.small(&l.Who)
	c.number(&l.Piece)
	c.number(&l.Effect)
	list(c, &l.Picks, carrier.number)
	c.small(&l.Speed)
	c.truth(&l.Dead)
}

func ready(c carrier, r *api.Ready) {
	c.small(&r.Who)
	c.number(&r.Piece)
	c.number(&r.Effect)
	c.truth(&r.Must)
}
