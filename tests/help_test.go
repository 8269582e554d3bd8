// Package tests holds what the document promises against what the program answers.
package tests

import (
	"fmt"
	"math"
	"slices"
	"strings"
	"testing"

	"loop.example/sismem/impl"
)

func data(text string) impl.MemObj { return impl.MemObj{Kind: impl.MemData, Text: text} }

func cell(refs ...int) impl.MemObj { return impl.MemObj{Kind: impl.MemCell, Refs: refs} }

func weak(first, second int) impl.MemObj {
	return impl.MemObj{Kind: impl.MemWeak, Refs: []int{first, second}}
}

func guard() impl.MemObj { return impl.MemObj{Kind: impl.MemGuard} }

func objs(list ...impl.MemObj) []impl.MemObj { return list }

func roots(list ...int) []int { return list }

// watches takes a guardian and an object, by turns.
func watches(places ...int) []impl.MemWatch {
	var list []impl.MemWatch
	for i := 0; i+1 < len(places); i += 2 {
		list = append(list, impl.MemWatch{Guard: places[i], Obj: places[i+1]})
	}
	return list
}

// noPlaces are numbers that are neither -1 nor places of that many objects.
func noPlaces(size int) []int {
	return []int{-2, -3, size, size + 1, 64, 1000, math.MinInt, math.MaxInt}
}

// copyOf is a heap of its own memory.
func copyOf(h impl.MemHeap) impl.MemHeap {
	c := impl.MemHeap{Roots: slices.Clone(h.Roots), Watch: slices.Clone(h.Watch), Ready: slices.Clone(h.Ready)}
	for _, o := range h.Objs {
		c.Objs = append(c.Objs, impl.MemObj{Kind: o.Kind, Text: o.Text, Refs: slices.Clone(o.Refs)})
	}
	return c
}

// wholeText tells all of a heap, what stands behind the ends of its lists too.
func wholeText(h impl.MemHeap) string {
	var b strings.Builder
	fmt.Fprint(&b, len(h.Objs), len(h.Roots), len(h.Watch), len(h.Ready), "\n")
	for _, o := range h.Objs[:cap(h.Objs)] {
		fmt.Fprintf(&b, "%d %q %d %v\n", o.Kind, o.Text, len(o.Refs), o.Refs[:cap(o.Refs)])
	}
	fmt.Fprintln(&b, h.Roots[:cap(h.Roots)], h.Watch[:cap(h.Watch)], h.Ready[:cap(h.Ready)])
	return b.String()
}

// withRoom is a list with the same values and marked room behind its end.
func withRoom[T any](list []T, mark T) []T {
	wide := make([]T, 0, len(list)+9)
	wide = append(wide, list...)
	for i := len(list); i < cap(wide); i++ {
		wide[:cap(wide)][i] = mark
	}
	return wide
}

// roomy is the same heap, with marked room behind the end of each list.
func roomy(h impl.MemHeap) impl.MemHeap {
	var wide impl.MemHeap
	for _, o := range h.Objs {
		wide.Objs = append(wide.Objs, impl.MemObj{Kind: o.Kind, Text: o.Text, Refs: withRoom(o.Refs, 7777)})
	}
	wide.Objs = withRoom(wide.Objs, impl.MemObj{Kind: 7777, Text: "behind the end"})
	wide.Roots = withRoom(h.Roots, 7777)
	wide.Watch = withRoom(h.Watch, impl.MemWatch{Guard: 7777, Obj: 7777})
	wide.Ready = withRoom(h.Ready, impl.MemWatch{Guard: 7777, Obj: 7777})
	return wide
}

// dice gives the same numbers each time, so that a failure can be run again.
type dice struct{ state uint64 }

func (d *dice) below(n int) int {
	d.state = d.state*6364136223846793005 + 1442695040888963407
	return int(d.state>>33) % n
}

// place is -1 now and then, else a place of that many objects.
func (d *dice) place(size int) int {
	if size == 0 || d.below(6) == 0 {
		return -1
	}
	return d.below(size)
}

func (d *dice) places(many, size int) []int {
	var list []int
	for range many {
		list = append(list, d.place(size))
	}
	return list
}

func (d *dice) obj(size int) impl.MemObj {
	switch d.below(6) {
	case 0:
		return data([]string{"a", "b", "z9", "0"}[d.below(4)])
	case 1, 2:
		return cell(d.places(d.below(impl.MemMaxRefs+1), size)...)
	case 3, 4:
		return weak(d.place(size), d.place(size))
	}
	return guard()
}

// heap is an ok heap of that many objects.
func (d *dice) heap(size int) impl.MemHeap {
	var h impl.MemHeap
	for range size {
		h.Objs = append(h.Objs, d.obj(size))
	}
	h.Roots = d.places(d.below(impl.MemMaxRoots+1), size)
	h.Watch = d.watches(h.Objs)
	h.Ready = d.watches(h.Objs)
	return h
}

// watches are some pairs of a guardian and any object of these; none, if there is no guardian.
func (d *dice) watches(objs []impl.MemObj) []impl.MemWatch {
	var guards []int
	for i, o := range objs {
		if o.Kind == impl.MemGuard {
			guards = append(guards, i)
		}
	}
	var list []impl.MemWatch
	if len(guards) > 0 {
		for range d.below(impl.MemMaxWatch/2 + 1) {
			list = append(list, impl.MemWatch{Guard: guards[d.below(len(guards))], Obj: d.below(len(objs))})
		}
	}
	return list
}

// okHeaps are many heaps, small ones above all: there the same things are met more often.
func okHeaps() []impl.MemHeap {
	d := &dice{state: 42}
	list := []impl.MemHeap{{}}
	for i := range 1500 {
		list = append(list, d.heap(i%12))
	}
	for range 40 {
		list = append(list, d.heap(impl.MemMaxObjs))
	}
	return list
}

// sparse is an ok heap of which little is known but a guardian, so that much is left to be told of.
func (d *dice) sparse(size int) impl.MemHeap {
	known := d.below(size)
	h := impl.MemHeap{Roots: roots(-1, known)}
	for i := range size {
		o := d.obj(size)
		if i == known || d.below(3) == 0 {
			o = guard()
		}
		for at := range o.Refs {
			if d.below(2) == 0 {
				o.Refs[at] = -1
			}
		}
		h.Objs = append(h.Objs, o)
	}
	h.Watch = d.watches(h.Objs)
	h.Ready = d.watches(h.Objs)
	h.Ready = h.Ready[:min(len(h.Ready), d.below(3))]
	return h
}

// toldHeaps are okHeaps, and such of which much is left to be told of.
func toldHeaps() []impl.MemHeap {
	d := &dice{state: 17}
	list := okHeaps()
	for i := range 1500 {
		list = append(list, d.sparse(1+i%14))
	}
	return list
}

type namedHeap struct {
	name string
	heap impl.MemHeap
}

// badHeaps are heaps with just one fault each, most of them where nobody can come to it.
func badHeaps() []namedHeap {
	many := func(n int, o impl.MemObj) []impl.MemObj { return slices.Repeat([]impl.MemObj{o}, n) }
	list := []namedHeap{
		{"a kind 0", impl.MemHeap{Objs: objs(impl.MemObj{})}},
		{"a kind 5", impl.MemHeap{Objs: objs(data("a"), impl.MemObj{Kind: 5}), Roots: roots(0)}},
		{"data without text", impl.MemHeap{Objs: objs(data("a"), data("")), Roots: roots(0)}},
		{"data with a capital", impl.MemHeap{Objs: objs(data("a"), data("A")), Roots: roots(0)}},
		{"a cell of 7", impl.MemHeap{Objs: objs(data("a"), cell(0, 0, 0, 0, 0, 0, 0)), Roots: roots(0)}},
		{"a weak pair of 1", impl.MemHeap{Objs: objs(data("a"), impl.MemObj{Kind: impl.MemWeak, Refs: []int{0}}), Roots: roots(0)}},
		{"a guardian with a part", impl.MemHeap{Objs: objs(data("a"), impl.MemObj{Kind: impl.MemGuard, Refs: []int{0}}), Roots: roots(0)}},
		{"a Ref past the end", impl.MemHeap{Objs: objs(data("a"), cell(2)), Roots: roots(0)}},
		{"a weak Ref of -2", impl.MemHeap{Objs: objs(data("a"), weak(-2, 0)), Roots: roots(0)}},
		{"a Root past the end", impl.MemHeap{Objs: objs(data("a")), Roots: roots(0, 1)}},
		{"a Root of -2", impl.MemHeap{Objs: objs(data("a")), Roots: roots(0, -2)}},
		{"a Root of an empty heap", impl.MemHeap{Roots: roots(0)}},
		{"61 objects", impl.MemHeap{Objs: many(impl.MemMaxObjs+1, data("a")), Roots: roots(0)}},
		{"9 Roots", impl.MemHeap{Objs: objs(data("a")), Roots: slices.Repeat([]int{0}, impl.MemMaxRoots+1)}},
		{"21 watches", impl.MemHeap{Objs: objs(guard()), Roots: roots(0), Watch: slices.Repeat(watches(0, 0), 11), Ready: slices.Repeat(watches(0, 0), 10)}},
		{"a Guard of Watch that is data", impl.MemHeap{Objs: objs(data("a")), Roots: roots(0), Watch: watches(0, 0)}},
		{"a Guard of Ready that is data", impl.MemHeap{Objs: objs(data("a")), Roots: roots(0), Ready: watches(0, 0)}},
		{"a Guard of Watch of -1", impl.MemHeap{Objs: objs(guard()), Roots: roots(0), Watch: watches(-1, 0)}},
		{"a Guard of Ready past the end", impl.MemHeap{Objs: objs(guard()), Roots: roots(0), Ready: watches(1, 0)}},
		{"an Obj of Watch of -1", impl.MemHeap{Objs: objs(guard()), Roots: roots(0), Watch: watches(0, -1)}},
		{"an Obj of Ready past the end", impl.MemHeap{Objs: objs(guard()), Roots: roots(0), Ready: watches(0, 1)}},
	}
	return list
}

func TestMadeHeapsAreWhatTheyAreMadeFor(t *testing.T) {
	for i, h := range okHeaps() {
		if !impl.MemOk(h) {
			t.Fatalf("heap %d must be ok: %+v", i, h)
		}
	}
	for _, bad := range badHeaps() {
		if impl.MemOk(bad.heap) {
			t.Errorf("%s: must not be ok", bad.name)
		}
	}
}
