package news_test

import (
	"math/rand/v2"
	"slices"
	"sync"
	"testing"
	"time"

	"joust/api"
	"joust/news"
	"joust/view"
)

// roomy is a list with room behind its end, in which something lies.
func roomy[T any](l []T, behind T) []T {
	l = append(slices.Clone(l), behind, behind, behind)
	return l[: len(l)-3 : len(l)]
}

// held is a view by lot, with such room.
func (l lots) held() api.View {
	v := l.view()
	v.Pieces, v.Options = roomy(v.Pieces, line(9, 9, 9, 9, 9)), roomy(v.Options, api.Option{Do: 9})
	return v
}

// whole are a view's lists, with the room behind their ends.
func whole(v api.View) ([]api.Seen, []api.Option) {
	return slices.Clone(v.Pieces[:cap(v.Pieces)]), slices.Clone(v.Options[:cap(v.Options)])
}

// spoil makes all that lies in a list, and in the room behind its end, something else.
func spoil[T any](l []T, what T) {
	l = l[:cap(l)]
	for i := range l {
		l[i] = what
	}
}

// Rule 5: what was handed in stays as it is, the room behind its end, too; nothing is shared.
func TestApart(t *testing.T) {
	lot := lots{rand.New(rand.NewPCG(25, 5))}
	for range 300 {
		a, b := lot.held(), lot.held()
		pieces, options := whole(a)
		others, more := whole(b)
		l := between(t, a, b)
		n := roomy(l, api.News{What: 9})
		news.May(a)
		x, y, bare := applied(t, a, n), applied(t, a, n), news.Bare(a)
		empty := applied(t, a, nil)
		spoil(l, api.News{What: 7})
		spoil(x.Pieces, line(7, 7, 7, 7, 7))
		if !isBare(y, b) || !isBare(bare, a) || !isBare(empty, a) {
			t.Fatal("memory is shared")
		}
		spoil(bare.Pieces, line(7, 7, 7, 7, 7))
		if !isBare(empty, a) {
			t.Fatal("memory is shared")
		}
		spoil(empty.Pieces, line(7, 7, 7, 7, 7))
		gotPieces, gotOptions := whole(a)
		gotOthers, gotMore := whole(b)
		if !slices.Equal(gotPieces, pieces) || !slices.Equal(gotOptions, options) || !slices.Equal(gotOthers, others) || !slices.Equal(gotMore, more) {
			t.Fatal("a view that was handed in is changed")
		}
		if !slices.Equal(n, read(a, b)) || !slices.Equal(n[:cap(n)][len(n):], []api.News{{What: 9}, {What: 9}, {What: 9}}) {
			t.Fatal("news that were handed in are changed")
		}
	}
}

// Rule 8: the same again, and at one time.
func TestAtOneTime(t *testing.T) {
	lot := lots{rand.New(rand.NewPCG(25, 6))}
	a, b := lot.held(), lot.held()
	want := between(t, a, b)
	var all sync.WaitGroup
	for range 8 {
		all.Add(1)
		go func() {
			defer all.Done()
			for range 200 {
				if l, e := news.Between(a, b); e != api.OK || !slices.Equal(l, want) {
					t.Errorf("Between = %q, %d", texts(l), e)
				}
				if x, e := news.Apply(a, want); e != api.OK || !isBare(x, b) {
					t.Errorf("Apply = %+v, %d", x, e)
				}
			}
		}()
	}
	all.Wait()
}

// Rule 1: very long lists end soon.
func TestLong(t *testing.T) {
	start := time.Now()
	const size = 300000
	var a, b api.View
	for i := range size {
		a.Pieces = append(a.Pieces, line(0, api.Hand, i, i, 0))
		b.Pieces = append(b.Pieces, line(0, api.Hand, i+size/2, i, 0))
	}
	l := between(t, a, b)
	if x := applied(t, a, l); len(l) != size+size/2 || !view.Same(x, b) {
		t.Errorf("Between tells %d", len(l))
	}
	turns := make([]api.News, 1<<20)
	for i := range turns {
		turns[i] = api.News{What: api.NwTurn, N: i}
	}
	if x := applied(t, a, turns); x.Turn != len(turns)-1 {
		t.Errorf("Turn = %d", x.Turn)
	}
	if d := time.Since(start); d > time.Minute {
		t.Errorf("it took %v", d)
	}
}
