package impl

import (
	"iter"
	"slices"
)

const wordBits = 64

// bitSet is a set of numbers, none below 0, with a bit for each.
type bitSet[N ~int | ~uint] struct {
	words []uint64
}

// newBitSet is an empty set with room for the numbers below size.
func newBitSet[N ~int | ~uint](size int) bitSet[N] {
	return bitSet[N]{words: make([]uint64, (size+wordBits-1)/wordBits)}
}

// add puts n in, and says whether it is new there.
func (s bitSet[N]) add(n N) bool {
	word, bit := n/wordBits, uint64(1)<<uint(n%wordBits)
	if s.words[word]&bit != 0 {
		return false
	}
	s.words[word] |= bit
	return true
}

// MemReach is the objects that can be come to, in the order in which they are come to.
func MemReach(h MemHeap) []int {
	if !MemOk(h) {
		return nil
	}
	var reach []int
	for place := range comings(h) {
		reach = append(reach, place)
	}
	return reach
}

// comings tells what can be come to in an ok heap; the list that it goes along grows by what each one leads to.
func comings(h MemHeap) iter.Seq[int] {
	return func(yield func(int) bool) {
		there := newBitSet[int](len(h.Objs))
		list := appendNew(nil, h.Roots, there)
		for i := 0; i < len(list); i++ {
			if !yield(list[i]) {
				return
			}
			list = appendNew(list, leadsTo(h, list[i]), there)
		}
	}
}

// appendNew appends those of places that are not there yet, each once, and marks them as there.
func appendNew(list []int, places []int, there bitSet[int]) []int {
	for _, p := range places {
		if p >= 0 && there.add(p) {
			list = append(list, p)
		}
	}
	return list
}

// leadsTo is where one can come to from an object, -1 among it where there is nothing.
func leadsTo(h MemHeap, place int) []int {
	switch x := thingOf(h.Objs[place]).(type) {
	case cellThing:
		return x.refs
	case weakThing:
		return []int{x.second}
	case guardThing:
		return toldTo(h.Ready, place)
	}
	return nil
}

// toldTo is the objects that one guardian has been told of, in order.
func toldTo(ready []MemWatch, guard int) []int {
	var objs []int
	for _, w := range ready {
		if w.Guard == guard {
			objs = append(objs, w.Obj)
		}
	}
	return objs
}

// MemSame says whether what can be come to looks the same in two heaps.
func MemSame(a MemHeap, b MemHeap) bool {
	if !MemOk(a) || !MemOk(b) {
		return false
	}
	x, y := lookOf(a), lookOf(b)
	return slices.Equal(x.Roots, y.Roots) && slices.EqualFunc(x.Objs, y.Objs, sameObj) &&
		slices.Equal(x.Watch, y.Watch) && slices.Equal(x.Ready, y.Ready)
}

func sameObj(a MemObj, b MemObj) bool {
	return a.Kind == b.Kind && a.Text == b.Text && slices.Equal(a.Refs, b.Refs)
}

// lookOf is how an ok heap looks: only what can be come to, and all places told by where in MemReach they are.
// It need not be ok itself: what is watched and cannot be come to is -1.
func lookOf(h MemHeap) MemHeap {
	reach := MemReach(h)
	var objs []MemObj
	for _, place := range reach {
		objs = append(objs, h.Objs[place])
	}
	return placedBy(h, objs, wheres(reach, len(h.Objs)))
}

// placedBy is the heap with just these objects of it, and all places told by where they are now.
func placedBy(h MemHeap, objs []MemObj, where []int) MemHeap {
	var placed MemHeap
	for _, o := range objs {
		placed.Objs = append(placed.Objs, MemObj{Kind: o.Kind, Text: o.Text, Refs: wheresOf(o.Refs, where)})
	}
	placed.Roots = wheresOf(h.Roots, where)
	placed.Watch = watchesBy(h.Watch, where)
	placed.Ready = watchesBy(h.Ready, where)
	return placed
}

// wheres tells of each of that many objects where in reach it is, -1 if it is not there.
func wheres(reach []int, objs int) []int {
	where := slices.Repeat([]int{-1}, objs)
	for i, place := range reach {
		where[place] = i
	}
	return where
}

func wheresOf(places []int, where []int) []int {
	told := make([]int, 0, len(places))
	for _, p := range places {
		if p >= 0 {
			p = where[p]
		}
		told = append(told, p)
	}
	return told
}

// watchesBy leaves out guardians that cannot be come to: nobody can tell what these watch.
func watchesBy(watches []MemWatch, where []int) []MemWatch {
	var told []MemWatch
	for _, w := range watches {
		if where[w.Guard] >= 0 {
			told = append(told, MemWatch{Guard: where[w.Guard], Obj: where[w.Obj]})
		}
	}
	return told
}
