package tests

import (
	"fmt"
	"slices"
	"testing"

	"loop.example/sismem/impl"
)

// lookText tells, by the document's words, all that MemSame looks at.
func lookText(h impl.MemHeap) string {
	reach := reachOf(h)
	where := func(places ...int) []int {
		var list []int
		for _, p := range places {
			list = append(list, slices.Index(reach, p))
		}
		return list
	}
	text := fmt.Sprintln(len(h.Roots), len(reach), where(h.Roots...))
	for _, p := range reach {
		o := h.Objs[p]
		text += fmt.Sprintf("%d %q %v\n", o.Kind, o.Text, where(o.Refs...))
	}
	for _, list := range [][]impl.MemWatch{h.Watch, h.Ready} {
		for _, w := range list {
			if slices.Contains(reach, w.Guard) {
				text += fmt.Sprint(where(w.Guard, w.Obj))
			}
		}
		text += "\n"
	}
	return text
}

// wantSame asks both ways round.
func wantSame(t *testing.T, name string, a, b impl.MemHeap, want bool) {
	t.Helper()
	if got := impl.MemSame(a, b); got != want {
		t.Errorf("%s: MemSame is %v, asked is %v:\n%+v\n%+v", name, got, want, a, b)
	}
	if got := impl.MemSame(b, a); got != want {
		t.Errorf("%s, the other way round: MemSame is %v, asked is %v:\n%+v\n%+v", name, got, want, b, a)
	}
}

// sample has each kind known, and 6, 7 and 8 that nobody can come to.
func sample() impl.MemHeap {
	return impl.MemHeap{
		Objs:  objs(cell(1, -1, 2), data("a"), weak(6, 3), guard(), data("b"), guard(), data("gone"), cell(4), guard(), weak(1, -1)),
		Roots: roots(0, -1, 5, 4, 9),
		Watch: watches(3, 1, 8, 1, 5, 6, 3, 4),
		Ready: watches(5, 4, 8, 7, 3, 1, 5, 1),
	}
}

func TestSampleIsMadeAsSaid(t *testing.T) {
	wantReach(t, "the sample", sample(), 0, 5, 4, 9, 1, 2, 3)
	wantSame(t, "the sample", sample(), sample(), true)
}

func TestSameDiffersInOneThing(t *testing.T) {
	changes := []struct {
		name   string
		change func(h *impl.MemHeap)
	}{
		{"a Root more, of nothing", func(h *impl.MemHeap) { h.Roots = append(h.Roots, -1) }},
		{"a Root more, of what is known", func(h *impl.MemHeap) { h.Roots = append(h.Roots, 0) }},
		{"a Root less", func(h *impl.MemHeap) { h.Roots = h.Roots[:4] }},
		{"a Root is something else", func(h *impl.MemHeap) { h.Roots[2] = 4 }},
		{"a Root is nothing", func(h *impl.MemHeap) { h.Roots[3] = -1 }},
		{"a Root was nothing", func(h *impl.MemHeap) { h.Roots[1] = 0 }},
		{"Roots in another order", func(h *impl.MemHeap) { h.Roots[2], h.Roots[3] = h.Roots[3], h.Roots[2] }},
		{"Roots of nothing in another order", func(h *impl.MemHeap) { h.Roots[0], h.Roots[1] = h.Roots[1], h.Roots[0] }},
		{"a Kind, cell for weak pair", func(h *impl.MemHeap) { h.Objs[9].Kind = impl.MemCell }},
		{"a Text", func(h *impl.MemHeap) { h.Objs[1].Text = "c" }},
		{"a Text longer", func(h *impl.MemHeap) { h.Objs[1].Text = "aa" }},
		{"a Text deep inside", func(h *impl.MemHeap) { h.Objs[4].Text = "a" }},
		{"a part", func(h *impl.MemHeap) { h.Objs[0].Refs[0] = 4 }},
		{"a part that is nothing", func(h *impl.MemHeap) { h.Objs[0].Refs[1] = 1 }},
		{"a part less, of nothing", func(h *impl.MemHeap) { h.Objs[0].Refs = []int{1, 2} }},
		{"a part more, of nothing", func(h *impl.MemHeap) { h.Objs[0].Refs = []int{1, -1, 2, -1} }},
		{"parts in another order", func(h *impl.MemHeap) { h.Objs[0].Refs = []int{2, -1, 1} }},
		{"a weak part that was not there", func(h *impl.MemHeap) { h.Objs[2].Refs[0] = 1 }},
		{"a weak part that was there", func(h *impl.MemHeap) { h.Objs[9].Refs[0] = 7 }},
		{"a weak part is something else", func(h *impl.MemHeap) { h.Objs[9].Refs[0] = 4 }},
		{"a second part", func(h *impl.MemHeap) { h.Objs[9].Refs[1] = 1 }},
		{"Watch less", func(h *impl.MemHeap) { h.Watch = h.Watch[:3] }},
		{"Watch more", func(h *impl.MemHeap) { h.Watch = append(h.Watch, impl.MemWatch{Guard: 3, Obj: 1}) }},
		{"Watch more, of what cannot be come to", func(h *impl.MemHeap) { h.Watch = append(h.Watch, impl.MemWatch{Guard: 3, Obj: 7}) }},
		{"Watch of another guardian", func(h *impl.MemHeap) { h.Watch[0].Guard = 5 }},
		{"Watch of a guardian that cannot be come to", func(h *impl.MemHeap) { h.Watch[0].Guard = 8 }},
		{"Watch of one that can", func(h *impl.MemHeap) { h.Watch[1].Guard = 3 }},
		{"Watch of another object", func(h *impl.MemHeap) { h.Watch[0].Obj = 2 }},
		{"Watch of an object that cannot be come to", func(h *impl.MemHeap) { h.Watch[0].Obj = 6 }},
		{"Watch of one that can be come to", func(h *impl.MemHeap) { h.Watch[2].Obj = 0 }},
		{"Watch in another order", func(h *impl.MemHeap) { h.Watch[0], h.Watch[3] = h.Watch[3], h.Watch[0] }},
		{"Watch in another order, of two guardians", func(h *impl.MemHeap) { h.Watch[2], h.Watch[3] = h.Watch[3], h.Watch[2] }},
		{"Ready less", func(h *impl.MemHeap) { h.Ready = h.Ready[:3] }},
		{"Ready more", func(h *impl.MemHeap) { h.Ready = append(h.Ready, impl.MemWatch{Guard: 3, Obj: 1}) }},
		{"Ready of another guardian", func(h *impl.MemHeap) { h.Ready[0].Guard = 3 }},
		{"Ready of a guardian that cannot be come to", func(h *impl.MemHeap) { h.Ready[0].Guard = 8 }},
		{"Ready of another object", func(h *impl.MemHeap) { h.Ready[0].Obj = 1 }},
		{"Ready of what was not come to", func(h *impl.MemHeap) { h.Ready[0].Obj = 6 }},
		{"Ready in another order", func(h *impl.MemHeap) { h.Ready[0], h.Ready[3] = h.Ready[3], h.Ready[0] }},
		{"Ready in another order, of two guardians", func(h *impl.MemHeap) { h.Ready[2], h.Ready[3] = h.Ready[3], h.Ready[2] }},
		{"Watch for Ready", func(h *impl.MemHeap) { h.Watch, h.Ready = h.Ready, h.Watch }},
		{"told, no longer watched", func(h *impl.MemHeap) { h.Ready = append(h.Ready, h.Watch[3]); h.Watch = h.Watch[:3] }},
	}
	for _, c := range changes {
		h := sample()
		c.change(&h)
		if !impl.MemOk(h) {
			t.Fatalf("%s: the heap must be ok", c.name)
		}
		wantSame(t, c.name, sample(), h, false)
		wantSame(t, c.name+", with itself", h, h, true)
	}
}

func TestSameDiffersInAKindAlone(t *testing.T) {
	known := func(o impl.MemObj) impl.MemHeap { return impl.MemHeap{Objs: objs(o), Roots: roots(0)} }
	wantSame(t, "a cell without parts, a guardian", known(cell()), known(guard()), false)
	wantSame(t, "a cell of 2, a weak pair", known(cell(0, 0)), known(weak(0, 0)), false)
	wantSame(t, "data, a guardian", known(data("a")), known(guard()), false)
	wantSame(t, "an empty list of parts", known(impl.MemObj{Kind: impl.MemCell, Refs: []int{}}), known(cell()), true)
	wantSame(t, "a weak part of nothing, and of itself", known(weak(-1, -1)), known(weak(0, -1)), false)
}

func TestSameTellsWhatIsOneFromWhatIsTwo(t *testing.T) {
	twins := objs(data("a"), data("a"))
	wantSame(t, "one known twice, two known", impl.MemHeap{Objs: twins, Roots: roots(0, 0)}, impl.MemHeap{Objs: twins, Roots: roots(0, 1)}, false)
	wantSame(t, "the first again, the second again", impl.MemHeap{Objs: twins, Roots: roots(0, 1, 0)}, impl.MemHeap{Objs: twins, Roots: roots(0, 1, 1)}, false)
	wantSame(t, "another of two", impl.MemHeap{Objs: twins, Roots: roots(0)}, impl.MemHeap{Objs: twins, Roots: roots(1)}, true)
	one := impl.MemHeap{Objs: objs(cell(1, 1), data("a"), data("a")), Roots: roots(0)}
	two := impl.MemHeap{Objs: objs(cell(1, 2), data("a"), data("a")), Roots: roots(0)}
	wantSame(t, "parts that are one, parts that are two", one, two, false)
	circle := impl.MemHeap{Objs: objs(cell(0)), Roots: roots(0)}
	longer := impl.MemHeap{Objs: objs(cell(1), cell(0)), Roots: roots(0)}
	wantSame(t, "a circle of 1, a circle of 2", circle, longer, false)
	wantSame(t, "nothing known, nothing there", impl.MemHeap{Objs: twins}, impl.MemHeap{}, true)
	wantSame(t, "Roots with nothing, no Roots", impl.MemHeap{Roots: roots(-1)}, impl.MemHeap{}, false)
	wantSame(t, "empty lists", impl.MemHeap{Objs: []impl.MemObj{}, Roots: []int{}, Watch: []impl.MemWatch{}, Ready: []impl.MemWatch{}}, impl.MemHeap{}, true)
}

func TestSameDoesNotLookAtWhatCannotBeComeTo(t *testing.T) {
	changes := []struct {
		name   string
		change func(h *impl.MemHeap)
	}{
		{"a Text", func(h *impl.MemHeap) { h.Objs[6].Text = "other" }},
		{"a Kind", func(h *impl.MemHeap) { h.Objs[6] = weak(0, 0) }},
		{"a part", func(h *impl.MemHeap) { h.Objs[7].Refs = []int{0, 7} }},
		{"an object more", func(h *impl.MemHeap) { h.Objs = append(h.Objs, cell(0, 1)) }},
		{"60 objects", func(h *impl.MemHeap) { h.Objs = append(h.Objs, slices.Repeat(objs(data("a")), 50)...) }},
		{"what a weak part is", func(h *impl.MemHeap) { h.Objs[2].Refs[0] = 8 }},
		{"a weak part of nothing", func(h *impl.MemHeap) { h.Objs[2].Refs[0] = -1 }},
		{"what is watched", func(h *impl.MemHeap) { h.Watch[2].Obj = 7 }},
		{"what such a guardian watches", func(h *impl.MemHeap) { h.Watch[1].Obj = 0 }},
		{"that such a guardian watches", func(h *impl.MemHeap) { h.Watch = slices.Delete(h.Watch, 1, 2) }},
		{"where in Watch it does", func(h *impl.MemHeap) { h.Watch[0], h.Watch[1] = h.Watch[1], h.Watch[0] }},
		{"what such a guardian was told of", func(h *impl.MemHeap) { h.Ready[1].Obj = 0 }},
		{"that such a guardian was told", func(h *impl.MemHeap) { h.Ready = slices.Delete(h.Ready, 1, 2) }},
		{"where in Ready it was", func(h *impl.MemHeap) { h.Ready[0], h.Ready[1] = h.Ready[1], h.Ready[0] }},
		{"that such a guardian was told more", func(h *impl.MemHeap) { h.Ready = append(h.Ready, impl.MemWatch{Guard: 8, Obj: 8}) }},
	}
	for _, c := range changes {
		h := sample()
		c.change(&h)
		if !impl.MemOk(h) {
			t.Fatalf("%s: the heap must be ok", c.name)
		}
		wantSame(t, c.name, sample(), h, true)
	}
}

func TestSameOfHeapsThatAreNotOk(t *testing.T) {
	for _, bad := range badHeaps() {
		wantSame(t, bad.name+", with itself", bad.heap, bad.heap, false)
		wantSame(t, bad.name+", with a copy", bad.heap, copyOf(bad.heap), false)
		wantSame(t, bad.name+", with nothing", bad.heap, impl.MemHeap{}, false)
		wantSame(t, bad.name+", with an ok one", bad.heap, impl.MemHeap{Objs: objs(data("a")), Roots: roots(0)}, false)
		wantSame(t, bad.name+", with a guardian", bad.heap, impl.MemHeap{Objs: objs(guard()), Roots: roots(0)}, false)
	}
}

func TestSameOfEachWithItself(t *testing.T) {
	for _, h := range okHeaps() {
		if !impl.MemSame(h, h) || !impl.MemSame(h, copyOf(h)) {
			t.Fatalf("not the same as itself: %+v", h)
		}
	}
}

// elsewhere puts each object at another place, and one more that nobody can come to ahead of all.
func elsewhere(d *dice, h impl.MemHeap) impl.MemHeap {
	size := len(h.Objs)
	to := make([]int, size)
	for i := range to {
		j := d.below(i + 1)
		to[i] = to[j]
		to[j] = i + 1
	}
	moved := func(p int) int {
		if p == -1 {
			return -1
		}
		return to[p]
	}
	m := copyOf(h)
	m.Objs = make([]impl.MemObj, size+1)
	m.Objs[0] = cell(d.place(size + 1))
	for i, o := range copyOf(h).Objs {
		for at, p := range o.Refs {
			o.Refs[at] = moved(p)
		}
		m.Objs[to[i]] = o
	}
	for i, p := range m.Roots {
		m.Roots[i] = moved(p)
	}
	for _, list := range [][]impl.MemWatch{m.Watch, m.Ready} {
		for i, w := range list {
			list[i] = impl.MemWatch{Guard: moved(w.Guard), Obj: moved(w.Obj)}
		}
	}
	return m
}

func TestSameOfMovedObjects(t *testing.T) {
	d := &dice{state: 7}
	for _, h := range okHeaps() {
		if len(h.Objs) < impl.MemMaxObjs {
			wantSame(t, "moved", h, elsewhere(d, h), true)
		}
	}
}

// touched differs in one thing at most, and may not be ok.
func touched(d *dice, h impl.MemHeap) impl.MemHeap {
	m := copyOf(h)
	size := len(m.Objs)
	swap := func(list []impl.MemWatch) {
		if len(list) > 1 {
			at := d.below(len(list) - 1)
			list[at], list[at+1] = list[at+1], list[at]
		}
	}
	switch d.below(8) {
	case 0:
		m.Roots = append(m.Roots, d.place(size))
	case 1:
		if len(m.Roots) > 0 {
			m.Roots[d.below(len(m.Roots))] = d.place(size)
		}
	case 2, 3:
		if size > 0 {
			if o := &m.Objs[d.below(size)]; len(o.Refs) > 0 {
				o.Refs[d.below(len(o.Refs))] = d.place(size)
			} else if o.Kind == impl.MemData {
				o.Text = "b"
			}
		}
	case 4:
		swap(m.Watch)
	case 5:
		swap(m.Ready)
	case 6:
		if len(m.Watch) > 0 {
			m.Watch[d.below(len(m.Watch))].Obj = d.below(size)
		}
	case 7:
		if len(m.Ready) > 0 {
			m.Ready[d.below(len(m.Ready))].Guard = m.Ready[0].Guard
		}
	}
	return m
}

func TestSameOfManyPairs(t *testing.T) {
	d := &dice{state: 11}
	same, other := 0, 0
	for _, h := range okHeaps() {
		for range 4 {
			m := touched(d, h)
			want := impl.MemOk(m) && lookText(h) == lookText(m)
			wantSame(t, "touched", h, m, want)
			if want {
				same++
			} else {
				other++
			}
		}
	}
	if same < 500 || other < 500 {
		t.Errorf("the pairs tell too little: %d are the same, %d are not", same, other)
	}
}

func TestSameOfSmallHeapsPairByPair(t *testing.T) {
	d := &dice{state: 13}
	var list []impl.MemHeap
	for i := range 250 {
		list = append(list, d.heap(1+i%3))
	}
	for _, a := range list {
		for _, b := range list {
			if got, want := impl.MemSame(a, b), lookText(a) == lookText(b); got != want {
				t.Fatalf("MemSame is %v, asked is %v:\n%+v\n%+v", got, want, a, b)
			}
		}
	}
}
