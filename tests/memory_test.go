package tests

import (
	"slices"
	"testing"

	"loop.example/sismem/impl"
)

// handedIn are heaps that are ok and heaps that are not, with marked room behind the end of each list.
func handedIn() []impl.MemHeap {
	list := []impl.MemHeap{roomy(sample())}
	for _, h := range okHeaps()[:400] {
		list = append(list, roomy(h))
	}
	for _, bad := range badHeaps() {
		list = append(list, roomy(bad.heap))
	}
	return list
}

func TestNothingHandedInIsChanged(t *testing.T) {
	other := roomy(sample())
	otherText := wholeText(other)
	for _, h := range handedIn() {
		text := wholeText(h)
		impl.MemOk(h)
		impl.MemReach(h)
		impl.MemSame(h, other)
		impl.MemSame(other, h)
		impl.MemSame(h, h)
		if wholeText(h) != text || wholeText(other) != otherText {
			t.Fatalf("changed:\n%s\nwas\n%s", wholeText(h), text)
		}
	}
}

func TestReachIsNewMemory(t *testing.T) {
	for _, h := range handedIn() {
		text := wholeText(h)
		first, second := impl.MemReach(h), impl.MemReach(h)
		want := slices.Clone(second)
		wide := first[:cap(first)]
		for i := range wide {
			wide[i] = 5555
		}
		if wholeText(h) != text {
			t.Fatalf("the answer shares memory with the heap:\n%s\nwas\n%s", wholeText(h), text)
		}
		if !slices.Equal(second, want) || !slices.Equal(impl.MemReach(h), want) {
			t.Fatalf("two answers share memory: %v was %v", second, want)
		}
	}
}

func TestNothingIsKeptBetweenCalls(t *testing.T) {
	list := handedIn()
	var oks []bool
	var reaches [][]int
	for _, h := range list {
		oks = append(oks, impl.MemOk(h))
		reaches = append(reaches, impl.MemReach(h))
	}
	for i, h := range slices.Backward(list) {
		if impl.MemOk(h) != oks[i] || !slices.Equal(impl.MemReach(h), reaches[i]) || impl.MemSame(h, h) != oks[i] {
			t.Fatalf("asked again, the answer is another: %+v", h)
		}
	}
}
