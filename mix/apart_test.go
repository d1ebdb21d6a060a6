package mix_test

import (
	"slices"
	"sync"
	"testing"

	"joust/mix"
)

// roomy is a list with room behind its end, in which something lies.
func roomy(l ...int) []int { return append(slices.Clip(l), 9, 1, 0)[:len(l)] }

// Rule 5: what is handed in stays as it is, the room behind its end too; each answer is of its own memory, what is spoiled of one spoils nothing else.
func TestApart(t *testing.T) {
	calls := map[string]func(l []int) []int{
		"Lots":   func(l []int) []int { got, _ := mix.Lots(l); return got },
		"Of":     func(l []int) []int { got, _ := mix.Of(l); return got },
		"Order":  func(l []int) []int { got, _ := mix.Order(7, len(l)); return got },
		"Script": func(l []int) []int { got, _ := mix.Script(7, [2]int{len(l), len(l)}); return got },
	}
	for name, call := range calls {
		for _, l := range [][]int{roomy(2, 0, 1), roomy(2, 1, 0), roomy(0, 0, 0), roomy(0, 1, 2), roomy(1, 1, 0), roomy(2, 5, 0), roomy(0)} {
			was := slices.Clone(l[:cap(l)])
			got := call(l)
			if !slices.Equal(l[:cap(l)], was) {
				t.Errorf("%s left %v as %v", name, was, l[:cap(l)])
			}
			want := slices.Clone(got)
			other := call(l)
			for _, spoiled := range [][]int{other[:cap(other)], l[:cap(l)]} {
				for i := range spoiled {
					spoiled[i] = -7
				}
			}
			if !slices.Equal(got, want) {
				t.Errorf("%s shares memory: %v became %v", name, want, got)
			}
			if again := call(slices.Clone(was)[:len(l)]); !slices.Equal(again, want) {
				t.Errorf("%s of %v = %v, and then %v", name, was, want, again)
			}
		}
	}
}

// Rule 8: calls at one time answer what each of them answers alone.
func TestAtOneTime(t *testing.T) {
	order, _ := mix.Order(7, 200)
	lots, _ := mix.Lots(order)
	want, _ := mix.Script(7, [2]int{200, 300})
	var group sync.WaitGroup
	for range 8 {
		group.Add(1)
		go func() {
			defer group.Done()
			for range 20 {
				a, _ := mix.Order(7, 200)
				b, _ := mix.Lots(order)
				c, _ := mix.Of(lots)
				d, _ := mix.Script(7, [2]int{200, 300})
				if !slices.Equal(a, order) || !slices.Equal(b, lots) || !slices.Equal(c, order) || !slices.Equal(d, want) {
					t.Errorf("at one time: %v, %v, %v, %v", a, b, c, d)
				}
			}
		}()
	}
	group.Wait()
}
