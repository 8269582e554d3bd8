package tests

import (
	"slices"
	"testing"

	"loop.example/sismem/impl"
)

// handedIn are heaps that are ok and heaps that are not, with marked room behind the end of each list.
func handedIn() []impl.MemHeap {
	list := []impl.MemHeap{roomy(sample())}
	for _, h := range okHeaps()[:400] {
		list = append(list, roomy(h))
	}
	for _, bad := range badHeaps() {
		list = append(list, roomy(bad.heap))
	}
	return list
}

func TestNothingHandedInIsChanged(t *testing.T) {
	other := roomy(sample())
	otherText := wholeText(other)
	for _, h := range handedIn() {
		text := wholeText(h)
		impl.MemOk(h)
		impl.MemReach(h)
		impl.MemSame(h, other)
		impl.MemSame(other, h)
		impl.MemSame(h, h)
		impl.MemCollect(h)
		if wholeText(h) != text || wholeText(other) != otherText {
			t.Fatalf("changed:\n%s\nwas\n%s", wholeText(h), text)
		}
	}
}

func TestReachIsNewMemory(t *testing.T) {
	for _, h := range handedIn() {
		text := wholeText(h)
		first, second := impl.MemReach(h), impl.MemReach(h)
		want := slices.Clone(second)
		wide := first[:cap(first)]
		for i := range wide {
			wide[i] = 5555
		}
		if wholeText(h) != text {
			t.Fatalf("the answer shares memory with the heap:\n%s\nwas\n%s", wholeText(h), text)
		}
		if !slices.Equal(second, want) || !slices.Equal(impl.MemReach(h), want) {
			t.Fatalf("two answers share memory: %v was %v", second, want)
		}
	}
}

// overwrite fills all lists of an answer of MemCollect, spare room too, each with a number of its own, and says whether these stand there then.
func overwrite(x impl.MemHeap, moves []int) bool {
	numbers := [][]int{moves[:cap(moves)], x.Roots[:cap(x.Roots)]}
	for _, o := range x.Objs[:cap(x.Objs)] {
		numbers = append(numbers, o.Refs[:cap(o.Refs)])
	}
	pairs := [][]impl.MemWatch{x.Watch[:cap(x.Watch)], x.Ready[:cap(x.Ready)]}
	mark := func(i int) int { return 5000 + i }
	pair := func(i int) impl.MemWatch { return impl.MemWatch{Guard: mark(i), Obj: mark(i)} }
	for i, list := range numbers {
		for at := range list {
			list[at] = mark(i)
		}
	}
	for i, list := range pairs {
		for at := range list {
			list[at] = pair(i)
		}
	}
	stands := true
	for i, list := range numbers {
		stands = stands && !slices.ContainsFunc(list, func(n int) bool { return n != mark(i) })
	}
	for i, list := range pairs {
		stands = stands && !slices.ContainsFunc(list, func(w impl.MemWatch) bool { return w != pair(i) })
	}
	for at := range x.Objs[:cap(x.Objs)] {
		x.Objs[:cap(x.Objs)][at] = impl.MemObj{Kind: 5555, Text: "over"}
	}
	return stands
}

func TestCollectIsNewMemory(t *testing.T) {
	list := handedIn()
	for _, h := range toldHeaps() {
		list = append(list, roomy(h))
	}
	for _, h := range list {
		text := wholeText(h)
		first, firstMoves := impl.MemCollect(h)
		second, moves := impl.MemCollect(h)
		want, wantMoves := copyOf(second), slices.Clone(moves)
		if !overwrite(first, firstMoves) {
			t.Fatalf("two lists of one answer share memory: of\n%s", text)
		}
		if wholeText(h) != text {
			t.Fatalf("the answer shares memory with the heap:\n%s\nwas\n%s", wholeText(h), text)
		}
		if !equalHeaps(second, want) || !slices.Equal(moves, wantMoves) {
			t.Fatalf("two answers share memory: %+v %v was %+v %v", second, moves, want, wantMoves)
		}
		wantCollect(t, "asked again", h, want, wantMoves...)
	}
}

func TestNothingIsKeptBetweenCalls(t *testing.T) {
	list := handedIn()
	var oks []bool
	var reaches, moves [][]int
	var collected []impl.MemHeap
	for _, h := range list {
		oks = append(oks, impl.MemOk(h))
		reaches = append(reaches, impl.MemReach(h))
		x, to := impl.MemCollect(h)
		collected, moves = append(collected, x), append(moves, to)
	}
	for i, h := range slices.Backward(list) {
		if impl.MemOk(h) != oks[i] || !slices.Equal(impl.MemReach(h), reaches[i]) || impl.MemSame(h, h) != oks[i] {
			t.Fatalf("asked again, the answer is another: %+v", h)
		}
		wantCollect(t, "asked again", h, collected[i], moves[i]...)
	}
}
