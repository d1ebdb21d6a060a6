package tale_test

import (
	"cmp"
	"reflect"
	"slices"
	"sync"
	"testing"

	"joust/api"
	"joust/tale"
)

// stretch is the memory of a list, with the room behind its end.
type stretch struct{ from, to uintptr }

// stretches are those of all the lists in v, the ones in the room behind the ends, too.
func stretches(v reflect.Value) (l []stretch) {
	switch v.Kind() {
	case reflect.Struct:
		for i := range v.NumField() {
			l = append(l, stretches(v.Field(i))...)
		}
	case reflect.Slice:
		if v.Cap() > 0 {
			l = append(l, stretch{v.Pointer(), v.Pointer() + uintptr(v.Cap())*v.Type().Elem().Size()})
		}
		v = v.Slice(0, v.Cap())
		for i := range v.Len() {
			l = append(l, stretches(v.Index(i))...)
		}
	}
	return l
}

// apart tells whether no two of the lists share anything.
func apart(lists ...any) bool {
	var l []stretch
	for _, one := range lists {
		l = append(l, stretches(reflect.ValueOf(one))...)
	}
	slices.SortFunc(l, func(a, b stretch) int { return cmp.Compare(a.from, b.from) })
	for i := 1; i < len(l); i++ {
		if l[i].from < l[i-1].to {
			return false
		}
	}
	return true
}

// roomy is a tale in which each list has room behind its end that holds something.
func roomy(l []api.Node) []api.Node {
	with := append(slices.Clone(l), node(77, "behind", node(78, "")), node(79, ""))
	for i := range l {
		with[i].Kids = roomy(l[i].Kids)
	}
	return with[:len(l)]
}

// Rule 5: what was handed in stays as it is, the room behind its end, too; what is answered is new memory.
func TestApart(t *testing.T) {
	for _, s := range []string{"", "1", base, "1 (2 3 (4 { a } 5 (6))) 7", "1 2 (3) (4) 5 (6) (7 8) 9"} {
		l, line := roomy(of(t, s)), append(tale.Main(of(t, s)), 3, 3)
		line = line[:len(line)-2]
		room := line[:cap(line)]
		wasLine := slices.Clone(room)
		other := roomy(of(t, "1 { x } (2 5 (9)) (9) 2 (3 { y } 6)"))
		longer := append(slices.Clone(line), 6, 7)
		kept := whole(l)
		calls := map[string]func() ([]api.Node, api.Errno){
			"Read":          func() ([]api.Node, api.Errno) { l, _, e := tale.Read(s); return l, e },
			"Add":           func() ([]api.Node, api.Errno) { return tale.Add(l, line) },
			"Add of more":   func() ([]api.Node, api.Errno) { return tale.Add(l, longer) },
			"Merge":         func() ([]api.Node, api.Errno) { return tale.Merge(l, other) },
			"Merge into":    func() ([]api.Node, api.Errno) { return tale.Merge(other, l) },
			"Merge of both": func() ([]api.Node, api.Errno) { return tale.Merge(l, l) },
			"Cut":           func() ([]api.Node, api.Errno) { return tale.Cut(l, line) },
			"Raise":         func() ([]api.Node, api.Errno) { return tale.Raise(l, line) },
		}
		for what, call := range calls {
			first, e := call()
			second, f := call()
			if e != f || e != api.OK && !(s == "" && e == api.ErrNone) || !tale.Same(first, second) || !apart(first, second, l, other, line) {
				t.Errorf("%s of %q: %d, %v, %v", what, s, e, first, second)
			}
		}
		a, b := tale.Lines(l), tale.Lines(l)
		if !apart(a, b, tale.Main(l), tale.Main(l), l, line) || !equalLines(a, b) {
			t.Errorf("Lines of %q share memory", s)
		}
		tale.Write(l)
		tale.Same(l, other)
		tale.May(l)
		if !reflect.DeepEqual(whole(l), kept) || !slices.Equal(room, wasLine) {
			t.Errorf("%q: what was handed in changed", s)
		}
	}
}

// whole is a copy of a tale with what lies in the room behind the ends.
func whole(l []api.Node) []api.Node {
	l = slices.Clone(l[:cap(l)])
	for i := range l {
		l[i].Kids = whole(l[i].Kids)
	}
	return l
}

// Rule 8: calls at one time answer what each one answers alone.
func TestAtOneTime(t *testing.T) {
	l := of(t, "1 (2 3 (4 { a } 5 (6))) 7")
	var group sync.WaitGroup
	for range 8 {
		group.Add(1)
		go func() {
			defer group.Done()
			for range 50 {
				told(t, "Raise", "2 (1 7) 4 { a } (3) 6 (5)")(tale.Raise(l, []int{2, 4, 6}))
				told(t, "Cut", "1 (2 3 (4 { a } 6)) 7")(tale.Cut(l, []int{2, 4, 5}))
				told(t, "Add", "1 (2 3 (4 { a } 5 (6 6))) 7")(tale.Add(l, []int{2, 4, 6, 6}))
				told(t, "Merge", "1 (2 3 (4 { a } 5 (6))) 7")(tale.Merge(l, l))
			}
		}()
	}
	group.Wait()
}
