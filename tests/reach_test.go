package tests

import (
	"slices"
	"testing"

	"loop.example/sismem/impl"
)

// stepsFrom is what the document says one can come to from an object.
func stepsFrom(h impl.MemHeap, place int) []int {
	switch o := h.Objs[place]; o.Kind {
	case impl.MemCell:
		return o.Refs
	case impl.MemWeak:
		return o.Refs[1:]
	case impl.MemGuard:
		var told []int
		for _, w := range h.Ready {
			if w.Guard == place {
				told = append(told, w.Obj)
			}
		}
		return told
	}
	return nil
}

// reachOf tells the order by the document's words: all the known, then what each leads to, in turn.
func reachOf(h impl.MemHeap) []int {
	var list []int
	take := func(places []int) {
		for _, p := range places {
			if p != -1 && !slices.Contains(list, p) {
				list = append(list, p)
			}
		}
	}
	take(h.Roots)
	for i := 0; i < len(list); i++ {
		take(stepsFrom(h, list[i]))
	}
	return list
}

func wantReach(t *testing.T, name string, h impl.MemHeap, want ...int) {
	t.Helper()
	if !impl.MemOk(h) {
		t.Errorf("%s: the heap must be ok: %+v", name, h)
	}
	if got := impl.MemReach(h); !slices.Equal(got, want) {
		t.Errorf("%s: MemReach is %v, asked is %v", name, got, want)
	}
}

func TestReachOfWhatIsKnown(t *testing.T) {
	three := objs(data("a"), data("b"), data("c"))
	wantReach(t, "nothing", impl.MemHeap{})
	wantReach(t, "no Roots", impl.MemHeap{Objs: three})
	wantReach(t, "Roots with nothing", impl.MemHeap{Objs: three, Roots: roots(-1, -1)})
	wantReach(t, "Roots with nothing in no heap", impl.MemHeap{Roots: roots(-1, -1)})
	wantReach(t, "in the order of Roots", impl.MemHeap{Objs: three, Roots: roots(2, 0, 1)}, 2, 0, 1)
	wantReach(t, "nothing ahead", impl.MemHeap{Objs: three, Roots: roots(-1, 2)}, 2)
	wantReach(t, "nothing between", impl.MemHeap{Objs: three, Roots: roots(1, -1, 0, -1)}, 1, 0)
	wantReach(t, "known more than once", impl.MemHeap{Objs: three, Roots: roots(1, 1, 0, 1, 0)}, 1, 0)
	wantReach(t, "known eight times", impl.MemHeap{Objs: three, Roots: slices.Repeat(roots(2), 8)}, 2)
	wantReach(t, "place 0", impl.MemHeap{Objs: three, Roots: roots(0)}, 0)
}

func TestReachOfParts(t *testing.T) {
	wantReach(t, "all parts of a cell, in order",
		impl.MemHeap{Objs: objs(data("a"), data("b"), data("c"), data("d"), data("e"), data("f"), cell(5, 4, 3, 2, 1, 0)), Roots: roots(6)}, 6, 5, 4, 3, 2, 1, 0)
	wantReach(t, "a part more than once, and nothing",
		impl.MemHeap{Objs: objs(data("a"), cell(0, -1, 0, 2, 0), data("b")), Roots: roots(1)}, 1, 0, 2)
	wantReach(t, "a part that is known", impl.MemHeap{Objs: objs(data("a"), cell(0, 2), data("b")), Roots: roots(2, 1)}, 2, 1, 0)
	wantReach(t, "a part that is known behind", impl.MemHeap{Objs: objs(cell(1, 2), data("a"), data("b")), Roots: roots(0, 2)}, 0, 2, 1)
	wantReach(t, "what leads to it does not count", impl.MemHeap{Objs: objs(data("a"), cell(0)), Roots: roots(0)}, 0)
	wantReach(t, "the parts of two cells, ahead of parts of these",
		impl.MemHeap{Objs: objs(cell(1, 2), cell(3), cell(4), data("a"), data("b")), Roots: roots(0)}, 0, 1, 2, 3, 4)
	wantReach(t, "all that is known ahead of parts",
		impl.MemHeap{Objs: objs(cell(4), cell(3), data("a"), data("b"), data("c")), Roots: roots(1, 0, 2)}, 1, 0, 2, 3, 4)
	wantReach(t, "data and a cell without parts lead nowhere", impl.MemHeap{Objs: objs(data("a"), cell(), data("b")), Roots: roots(1, 0)}, 1, 0)
}

func TestReachOfCircles(t *testing.T) {
	wantReach(t, "a cell of itself", impl.MemHeap{Objs: objs(cell(0, 0)), Roots: roots(0)}, 0)
	wantReach(t, "three in a circle", impl.MemHeap{Objs: objs(cell(1), cell(2), cell(0)), Roots: roots(1)}, 1, 2, 0)
	wantReach(t, "a circle that nobody knows", impl.MemHeap{Objs: objs(cell(1), cell(0), data("a")), Roots: roots(2)}, 2)
	wantReach(t, "a weak pair with itself behind", impl.MemHeap{Objs: objs(weak(-1, 0)), Roots: roots(0)}, 0)
	wantReach(t, "a circle over a weak pair and a guardian",
		impl.MemHeap{Objs: objs(cell(1), weak(-1, 2), guard()), Roots: roots(0), Ready: watches(2, 0)}, 0, 1, 2)
}

func TestReachOfAllObjects(t *testing.T) {
	var chain, want []int
	var list []impl.MemObj
	for i := range impl.MemMaxObjs {
		list = append(list, cell(i-1))
		want = append(want, impl.MemMaxObjs-1-i)
	}
	wantReach(t, "a chain of 60", impl.MemHeap{Objs: list, Roots: roots(59)}, want...)
	for i := range list {
		list[i] = cell((i + 1) % len(list))
		chain = append(chain, i)
	}
	wantReach(t, "a circle of 60", impl.MemHeap{Objs: list, Roots: roots(0)}, chain...)
}

func TestReachOfWeakPairs(t *testing.T) {
	wantReach(t, "the second alone", impl.MemHeap{Objs: objs(data("a"), data("b"), weak(0, 1)), Roots: roots(2)}, 2, 1)
	wantReach(t, "the second of nothing", impl.MemHeap{Objs: objs(data("a"), weak(0, -1)), Roots: roots(1)}, 1)
	wantReach(t, "the first, if it is known too", impl.MemHeap{Objs: objs(data("a"), data("b"), weak(0, 1)), Roots: roots(2, 0)}, 2, 0, 1)
	wantReach(t, "the first, if it is a part too",
		impl.MemHeap{Objs: objs(data("a"), data("b"), weak(0, 1), cell(2, 0)), Roots: roots(3)}, 3, 2, 0, 1)
	wantReach(t, "the first and the second the same", impl.MemHeap{Objs: objs(data("a"), weak(0, 0)), Roots: roots(1)}, 1, 0)
	wantReach(t, "what the first alone leads to",
		impl.MemHeap{Objs: objs(data("a"), cell(0), weak(1, -1)), Roots: roots(2)}, 2)
	wantReach(t, "the first of a pair, itself weak, whose second leads on",
		impl.MemHeap{Objs: objs(weak(1, 2), data("a"), weak(1, 3), data("b")), Roots: roots(0)}, 0, 2, 3)
}

func TestReachOfGuardians(t *testing.T) {
	five := objs(data("a"), guard(), data("b"), guard(), data("c"))
	wantReach(t, "what is Ready, in order", impl.MemHeap{Objs: five, Roots: roots(1), Ready: watches(1, 4, 1, 0, 1, 2)}, 1, 4, 0, 2)
	wantReach(t, "what is Ready more than once", impl.MemHeap{Objs: five, Roots: roots(1), Ready: watches(1, 4, 1, 4, 1, 0, 1, 4)}, 1, 4, 0)
	wantReach(t, "a guardian that cannot be come to", impl.MemHeap{Objs: five, Roots: roots(0), Ready: watches(1, 2, 3, 4)}, 0)
	wantReach(t, "one can, one cannot", impl.MemHeap{Objs: five, Roots: roots(3), Ready: watches(1, 0, 3, 4, 1, 2)}, 3, 4)
	wantReach(t, "two, each with its own", impl.MemHeap{Objs: five, Roots: roots(3, 1), Ready: watches(1, 0, 3, 4, 1, 2)}, 3, 1, 4, 0, 2)
	wantReach(t, "what is watched is not kept", impl.MemHeap{Objs: five, Roots: roots(1, 3), Watch: watches(1, 0, 3, 2)}, 1, 3)
	wantReach(t, "watched and Ready", impl.MemHeap{Objs: five, Roots: roots(1), Watch: watches(1, 0), Ready: watches(1, 2)}, 1, 2)
	wantReach(t, "a guardian told of another", impl.MemHeap{Objs: five, Roots: roots(1), Ready: watches(3, 0, 1, 3)}, 1, 3, 0)
	wantReach(t, "a guardian told of itself", impl.MemHeap{Objs: five, Roots: roots(1), Ready: watches(1, 1)}, 1)
	wantReach(t, "two told of each other that nobody knows", impl.MemHeap{Objs: five, Roots: roots(0), Ready: watches(1, 3, 3, 1)}, 0)
	wantReach(t, "behind what it is told of does not come the guardian", impl.MemHeap{Objs: five, Roots: roots(2), Ready: watches(1, 2)}, 2)
	wantReach(t, "what is Ready leads on, in turn",
		impl.MemHeap{Objs: objs(guard(), cell(2), data("a"), weak(4, 5), data("b"), data("c")), Roots: roots(0), Ready: watches(0, 3, 0, 1)}, 0, 3, 1, 5, 2)
	wantReach(t, "20 that are Ready",
		impl.MemHeap{Objs: append(objs(guard()), slices.Repeat(objs(data("a")), 20)...), Roots: roots(0), Ready: watches(0, 1, 0, 2, 0, 3, 0, 4, 0, 5, 0, 6, 0, 7, 0, 8, 0, 9, 0, 10, 0, 20, 0, 19, 0, 18, 0, 17, 0, 16, 0, 15, 0, 14, 0, 13, 0, 12, 0, 11)},
		0, 1, 2, 3, 4, 5, 6, 7, 8, 9, 10, 20, 19, 18, 17, 16, 15, 14, 13, 12, 11)
}

func TestReachOfHeapsThatAreNotOk(t *testing.T) {
	for _, bad := range badHeaps() {
		if got := impl.MemReach(bad.heap); len(got) != 0 {
			t.Errorf("%s: MemReach is %v, asked is nothing", bad.name, got)
		}
	}
}

func TestReachOfManyHeaps(t *testing.T) {
	for _, h := range okHeaps() {
		wantReach(t, "a heap", h, reachOf(h)...)
	}
}

// Promise 5 without an order: the known is told, all that is told leads only to what is told, and nothing else is, each once.
func TestReachTellsJustWhatCanBeComeTo(t *testing.T) {
	for _, h := range okHeaps() {
		got := impl.MemReach(h)
		times := make([]int, len(h.Objs))
		for _, p := range got {
			times[p]++
		}
		can := make([]int, len(h.Objs))
		mark := func(places []int) bool {
			grown := false
			for _, p := range places {
				grown = grown || p != -1 && can[p] == 0
				if p != -1 {
					can[p] = 1
				}
			}
			return grown
		}
		for again := mark(h.Roots); again; {
			again = false
			for p := range h.Objs {
				again = can[p] == 1 && mark(stepsFrom(h, p)) || again
			}
		}
		if !slices.Equal(times, can) {
			t.Fatalf("MemReach of %+v is %v; as often as asked: %v", h, got, can)
		}
	}
}
