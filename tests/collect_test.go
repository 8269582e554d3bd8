package tests

import (
	"runtime"
	"slices"
	"sync"
	"testing"
	"time"

	"loop.example/sismem/impl"
)

// tellingOf is the heap behind telling, by the document's words, and in how many turns it was told.
func tellingOf(h impl.MemHeap) (impl.MemHeap, int) {
	told := copyOf(h)
	for turns := 0; ; turns++ {
		come := reachOf(told)
		due := func(w impl.MemWatch) bool { return slices.Contains(come, w.Guard) && !slices.Contains(come, w.Obj) }
		if !slices.ContainsFunc(told.Watch, due) {
			return told, turns
		}
		for _, w := range told.Watch {
			if due(w) {
				told.Ready = append(told.Ready, w)
			}
		}
		told.Watch = slices.DeleteFunc(told.Watch, due)
	}
}

// collectOf is what the document asks of MemCollect.
func collectOf(h impl.MemHeap) (impl.MemHeap, []int) {
	told, _ := tellingOf(h)
	kept := reachOf(told)
	to := func(p int) int { return slices.Index(kept, p) }
	all := func(places []int) []int {
		var list []int
		for _, p := range places {
			list = append(list, to(p))
		}
		return list
	}
	stay := func(list []impl.MemWatch) []impl.MemWatch {
		var left []impl.MemWatch
		for _, w := range list {
			if to(w.Guard) != -1 && to(w.Obj) != -1 {
				left = append(left, impl.MemWatch{Guard: to(w.Guard), Obj: to(w.Obj)})
			}
		}
		return left
	}
	x := impl.MemHeap{Roots: all(told.Roots), Watch: stay(told.Watch), Ready: stay(told.Ready)}
	for _, p := range kept {
		o := told.Objs[p]
		x.Objs = append(x.Objs, impl.MemObj{Kind: o.Kind, Text: o.Text, Refs: all(o.Refs)})
	}
	var moves []int
	for p := range h.Objs {
		moves = append(moves, to(p))
	}
	return x, moves
}

// equalHeaps says whether two heaps are the same place by place.
func equalHeaps(a, b impl.MemHeap) bool {
	return slices.EqualFunc(a.Objs, b.Objs, func(x, y impl.MemObj) bool {
		return x.Kind == y.Kind && x.Text == y.Text && slices.Equal(x.Refs, y.Refs)
	}) && slices.Equal(a.Roots, b.Roots) && slices.Equal(a.Watch, b.Watch) && slices.Equal(a.Ready, b.Ready)
}

func wantCollect(t *testing.T, name string, h, want impl.MemHeap, wantMoves ...int) {
	t.Helper()
	x, moves := impl.MemCollect(h)
	if !equalHeaps(x, want) || !slices.Equal(moves, wantMoves) {
		t.Errorf("%s: MemCollect of\n%+v is\n%+v %v, asked is\n%+v %v", name, h, x, moves, want, wantMoves)
	}
}

func TestCollectKeepsInTheOrderOfReach(t *testing.T) {
	wantCollect(t, "an empty heap", impl.MemHeap{}, impl.MemHeap{})
	wantCollect(t, "Roots with nothing", impl.MemHeap{Roots: roots(-1, -1)}, impl.MemHeap{Roots: roots(-1, -1)})
	wantCollect(t, "nothing is known",
		impl.MemHeap{Objs: objs(data("a"), cell(0), guard())}, impl.MemHeap{}, -1, -1, -1)
	wantCollect(t, "nothing is known at all places",
		impl.MemHeap{Objs: objs(data("a")), Roots: roots(-1, -1, -1)}, impl.MemHeap{Roots: roots(-1, -1, -1)}, -1)
	wantCollect(t, "in the order of Roots",
		impl.MemHeap{Objs: objs(data("a"), data("b"), data("c")), Roots: roots(2, -1, 0, 2)},
		impl.MemHeap{Objs: objs(data("c"), data("a")), Roots: roots(0, -1, 1, 0)}, 1, -1, 0)
	wantCollect(t, "the known first, then parts in turn",
		impl.MemHeap{Objs: objs(data("a"), data("b"), data("x"), cell(1, 5, -1, 0), cell(0, 0, 4), cell(6), data("c")), Roots: roots(4, 3)},
		impl.MemHeap{Objs: objs(cell(2, 2, 0), cell(3, 4, -1, 2), data("a"), data("b"), cell(5), data("c")), Roots: roots(0, 1)}, 2, 3, -1, 1, 0, 4, 5)
	wantCollect(t, "circles",
		impl.MemHeap{Objs: objs(cell(1), cell(0), cell(2), cell(4, 3), weak(4, 3)), Roots: roots(-1, 4)},
		impl.MemHeap{Objs: objs(weak(0, 1), cell(0, 1)), Roots: roots(-1, 0)}, -1, -1, -1, 1, 0)
	wantCollect(t, "what is told ahead of what is a part of it",
		impl.MemHeap{Objs: objs(data("a"), cell(0), data("b"), guard(), cell(2)), Roots: roots(3, 4), Watch: watches(3, 0, 3, 1)},
		impl.MemHeap{Objs: objs(guard(), cell(4), data("a"), cell(2), data("b")), Roots: roots(0, 1), Ready: watches(0, 2, 0, 3)}, 2, 3, 4, 0, 1)
}

func TestCollectOfWeakPairs(t *testing.T) {
	wantCollect(t, "the first is gone",
		impl.MemHeap{Objs: objs(data("a"), weak(0, -1)), Roots: roots(1)},
		impl.MemHeap{Objs: objs(weak(-1, -1)), Roots: roots(0)}, -1, 0)
	wantCollect(t, "the first is gone, the second is not",
		impl.MemHeap{Objs: objs(data("a"), weak(0, 2), data("b")), Roots: roots(1)},
		impl.MemHeap{Objs: objs(weak(-1, 1), data("b")), Roots: roots(0)}, -1, 0, 1)
	wantCollect(t, "the first is kept by a Root behind",
		impl.MemHeap{Objs: objs(data("a"), weak(0, -1)), Roots: roots(1, 0)},
		impl.MemHeap{Objs: objs(weak(1, -1), data("a")), Roots: roots(0, 1)}, 1, 0)
	wantCollect(t, "the first is kept by its own second",
		impl.MemHeap{Objs: objs(data("a"), weak(0, 2), cell(0)), Roots: roots(1)},
		impl.MemHeap{Objs: objs(weak(2, 1), cell(2), data("a")), Roots: roots(0)}, 2, 0, 1)
	wantCollect(t, "the first is the second",
		impl.MemHeap{Objs: objs(data("a"), weak(0, 0)), Roots: roots(1)},
		impl.MemHeap{Objs: objs(weak(1, 1), data("a")), Roots: roots(0)}, 1, 0)
	wantCollect(t, "the first is itself",
		impl.MemHeap{Objs: objs(data("a"), weak(1, -1)), Roots: roots(1)},
		impl.MemHeap{Objs: objs(weak(0, -1)), Roots: roots(0)}, -1, 0)
	wantCollect(t, "the first was nothing",
		impl.MemHeap{Objs: objs(weak(-1, 1), data("a")), Roots: roots(0)},
		impl.MemHeap{Objs: objs(weak(-1, 1), data("a")), Roots: roots(0)}, 0, 1)
	wantCollect(t, "the first of one is a pair that only it has",
		impl.MemHeap{Objs: objs(weak(1, -1), weak(0, 0)), Roots: roots(0)},
		impl.MemHeap{Objs: objs(weak(-1, -1)), Roots: roots(0)}, 0, -1)
	wantCollect(t, "the first is kept only as a guardian was told of it",
		impl.MemHeap{Objs: objs(weak(2, -1), guard(), data("a"), data("b")), Roots: roots(0, 1), Watch: watches(1, 2)},
		impl.MemHeap{Objs: objs(weak(2, -1), guard(), data("a")), Roots: roots(0, 1), Ready: watches(1, 2)}, 0, 1, 2, -1)
	wantCollect(t, "the first is kept only as a part of what was told",
		impl.MemHeap{Objs: objs(weak(3, -1), guard(), cell(3), data("a")), Roots: roots(0, 1), Watch: watches(1, 2)},
		impl.MemHeap{Objs: objs(weak(3, -1), guard(), cell(3), data("a")), Roots: roots(0, 1), Ready: watches(1, 2)}, 0, 1, 2, 3)
	wantCollect(t, "the first of what was told does not keep",
		impl.MemHeap{Objs: objs(guard(), weak(2, 3), data("a"), data("b")), Roots: roots(0), Watch: watches(0, 1)},
		impl.MemHeap{Objs: objs(guard(), weak(-1, 2), data("b")), Roots: roots(0), Ready: watches(0, 1)}, 0, 1, -1, 2)
	wantCollect(t, "the first of a pair that is Ready, and was told too",
		impl.MemHeap{Objs: objs(guard(), weak(2, -1), data("a")), Roots: roots(0), Watch: watches(0, 2), Ready: watches(0, 1)},
		impl.MemHeap{Objs: objs(guard(), weak(2, -1), data("a")), Roots: roots(0), Ready: watches(0, 1, 0, 2)}, 0, 1, 2)
}

func TestCollectTellsAtOnce(t *testing.T) {
	wantCollect(t, "two guardians of one object",
		impl.MemHeap{Objs: objs(guard(), guard(), data("a")), Roots: roots(0, 1), Watch: watches(1, 2, 0, 2)},
		impl.MemHeap{Objs: objs(guard(), guard(), data("a")), Roots: roots(0, 1), Ready: watches(1, 2, 0, 2)}, 0, 1, 2)
	wantCollect(t, "an object watched twice",
		impl.MemHeap{Objs: objs(guard(), data("a")), Roots: roots(0), Watch: watches(0, 1, 0, 1)},
		impl.MemHeap{Objs: objs(guard(), data("a")), Roots: roots(0), Ready: watches(0, 1, 0, 1)}, 0, 1)
	wantCollect(t, "an object that leads to another, both watched",
		impl.MemHeap{Objs: objs(guard(), cell(2), data("a")), Roots: roots(0), Watch: watches(0, 1, 0, 2)},
		impl.MemHeap{Objs: objs(guard(), cell(2), data("a")), Roots: roots(0), Ready: watches(0, 1, 0, 2)}, 0, 1, 2)
	wantCollect(t, "the same, what it leads to being watched first",
		impl.MemHeap{Objs: objs(guard(), cell(2), data("a")), Roots: roots(0), Watch: watches(0, 2, 0, 1)},
		impl.MemHeap{Objs: objs(guard(), data("a"), cell(1)), Roots: roots(0), Ready: watches(0, 1, 0, 2)}, 0, 2, 1)
	wantCollect(t, "two that lead to each other, by two guardians",
		impl.MemHeap{Objs: objs(guard(), guard(), cell(3), cell(2)), Roots: roots(1, 0), Watch: watches(0, 2, 1, 3)},
		impl.MemHeap{Objs: objs(guard(), guard(), cell(3), cell(2)), Roots: roots(0, 1), Ready: watches(1, 3, 0, 2)}, 1, 0, 3, 2)
	wantCollect(t, "told of a guardian that watches what the first one watches",
		impl.MemHeap{Objs: objs(guard(), guard(), data("a")), Roots: roots(0), Watch: watches(1, 2, 0, 2, 0, 1)},
		impl.MemHeap{Objs: objs(guard(), data("a"), guard()), Roots: roots(0), Watch: watches(2, 1), Ready: watches(0, 1, 0, 2)}, 0, 2, 1)
}

func TestCollectTellsInTurns(t *testing.T) {
	wantCollect(t, "a guardian come to by what was told",
		impl.MemHeap{Objs: objs(guard(), cell(2), guard(), data("a")), Roots: roots(0), Watch: watches(2, 3, 0, 1)},
		impl.MemHeap{Objs: objs(guard(), cell(2), guard(), data("a")), Roots: roots(0), Ready: watches(0, 1, 2, 3)}, 0, 1, 2, 3)
	wantCollect(t, "a guardian that was told of itself",
		impl.MemHeap{Objs: objs(guard(), guard(), data("a")), Roots: roots(0), Watch: watches(1, 2, 0, 1)},
		impl.MemHeap{Objs: objs(guard(), guard(), data("a")), Roots: roots(0), Ready: watches(0, 1, 1, 2)}, 0, 1, 2)
	wantCollect(t, "what such a guardian was told of before keeps it from being told",
		impl.MemHeap{Objs: objs(guard(), guard(), data("a")), Roots: roots(0), Watch: watches(1, 2, 0, 1), Ready: watches(1, 2)},
		impl.MemHeap{Objs: objs(guard(), guard(), data("a")), Roots: roots(0), Watch: watches(1, 2), Ready: watches(1, 2, 0, 1)}, 0, 1, 2)
	wantCollect(t, "come to by what was told in the turn before, and still watched",
		impl.MemHeap{Objs: objs(guard(), cell(2, 3), guard(), data("a")), Roots: roots(0), Watch: watches(2, 3, 0, 1)},
		impl.MemHeap{Objs: objs(guard(), cell(2, 3), guard(), data("a")), Roots: roots(0), Watch: watches(2, 3), Ready: watches(0, 1)}, 0, 1, 2, 3)
	wantCollect(t, "two turns earlier",
		impl.MemHeap{Objs: objs(guard(), guard(), guard(), cell(5), cell(2), data("a")), Roots: roots(0), Watch: watches(2, 5, 1, 4, 0, 1, 0, 3)},
		impl.MemHeap{Objs: objs(guard(), guard(), cell(4), cell(5), data("a"), guard()), Roots: roots(0), Watch: watches(5, 4), Ready: watches(0, 1, 0, 2, 1, 3)}, 0, 1, 5, 2, 3, 4)
	wantCollect(t, "a row of guardians, the last of them first in Watch",
		impl.MemHeap{Objs: objs(data("a"), guard(), guard(), guard(), guard()), Roots: roots(4), Watch: watches(1, 0, 2, 1, 3, 2, 4, 3)},
		impl.MemHeap{Objs: objs(guard(), guard(), guard(), guard(), data("a")), Roots: roots(0), Ready: watches(0, 1, 1, 2, 2, 3, 3, 4)}, 4, 3, 2, 1, 0)
	wantCollect(t, "guardians that watch each other in circles",
		impl.MemHeap{Objs: objs(guard(), guard(), guard()), Roots: roots(1), Watch: watches(0, 2, 2, 0, 2, 1, 1, 2)},
		impl.MemHeap{Objs: objs(guard(), guard(), guard()), Roots: roots(0), Watch: watches(2, 1, 1, 0), Ready: watches(0, 1, 1, 2)}, 2, 0, 1)
}

func TestCollectOfWhatStaysWatched(t *testing.T) {
	wantCollect(t, "what is known",
		impl.MemHeap{Objs: objs(data("x"), data("a"), guard()), Roots: roots(2, 1), Watch: watches(2, 1, 2, 1)},
		impl.MemHeap{Objs: objs(guard(), data("a")), Roots: roots(0, 1), Watch: watches(0, 1, 0, 1)}, -1, 1, 0)
	wantCollect(t, "itself",
		impl.MemHeap{Objs: objs(data("x"), guard()), Roots: roots(1), Watch: watches(1, 1)},
		impl.MemHeap{Objs: objs(guard()), Roots: roots(0), Watch: watches(0, 0)}, -1, 0)
	wantCollect(t, "what it has been told of",
		impl.MemHeap{Objs: objs(data("a"), guard()), Roots: roots(1), Watch: watches(1, 0), Ready: watches(1, 0)},
		impl.MemHeap{Objs: objs(guard(), data("a")), Roots: roots(0), Watch: watches(0, 1), Ready: watches(0, 1)}, 1, 0)
	wantCollect(t, "what another one has been told of",
		impl.MemHeap{Objs: objs(data("a"), guard(), guard()), Roots: roots(1, 2), Watch: watches(1, 0), Ready: watches(2, 0)},
		impl.MemHeap{Objs: objs(guard(), guard(), data("a")), Roots: roots(0, 1), Watch: watches(0, 2), Ready: watches(1, 2)}, 2, 0, 1)
	wantCollect(t, "in order, what is told left out",
		impl.MemHeap{Objs: objs(data("a"), guard(), guard(), data("b"), data("c")), Roots: roots(2, 1, 0, 4), Watch: watches(1, 4, 2, 3, 2, 0, 1, 3, 1, 0, 2, 4)},
		impl.MemHeap{Objs: objs(guard(), guard(), data("a"), data("c"), data("b")), Roots: roots(0, 1, 2, 3), Watch: watches(1, 3, 0, 2, 1, 2, 0, 3), Ready: watches(0, 4, 1, 4)}, 2, 1, 0, 4, 3)
}

func TestCollectOfReady(t *testing.T) {
	wantCollect(t, "in order, each at its new place",
		impl.MemHeap{Objs: objs(data("a"), data("b"), guard(), guard()), Roots: roots(3, 2), Ready: watches(2, 1, 3, 0, 2, 0, 2, 1)},
		impl.MemHeap{Objs: objs(guard(), guard(), data("a"), data("b")), Roots: roots(0, 1), Ready: watches(1, 3, 0, 2, 1, 2, 1, 3)}, 2, 3, 1, 0)
	wantCollect(t, "what is told comes behind, in the order of Watch, not of guardians",
		impl.MemHeap{Objs: objs(data("a"), data("b"), data("c"), guard(), guard()), Roots: roots(3, 4), Watch: watches(4, 2, 3, 1, 4, 1), Ready: watches(4, 0, 3, 0)},
		impl.MemHeap{Objs: objs(guard(), guard(), data("a"), data("b"), data("c")), Roots: roots(0, 1), Ready: watches(1, 2, 0, 2, 1, 4, 0, 3, 1, 3)}, 2, 3, 4, 0, 1)
	wantCollect(t, "told of the same once more",
		impl.MemHeap{Objs: objs(guard(), guard(), data("a")), Roots: roots(0), Watch: watches(0, 2, 0, 1), Ready: watches(1, 2)},
		impl.MemHeap{Objs: objs(guard(), data("a"), guard()), Roots: roots(0), Ready: watches(2, 1, 0, 1, 0, 2)}, 0, 2, 1)
}

func TestCollectOfGuardiansThatCannotBeComeTo(t *testing.T) {
	wantCollect(t, "its Watch and Ready go",
		impl.MemHeap{Objs: objs(guard(), data("a"), data("b"), data("c")), Roots: roots(1), Watch: watches(0, 2, 0, 1), Ready: watches(0, 3, 0, 1)},
		impl.MemHeap{Objs: objs(data("a")), Roots: roots(0)}, -1, 0, -1, -1)
	wantCollect(t, "among those of one that can",
		impl.MemHeap{Objs: objs(guard(), guard(), data("a")), Roots: roots(1, 2), Watch: watches(0, 2, 1, 2, 0, 1, 0, 0), Ready: watches(0, 1, 1, 2, 0, 0)},
		impl.MemHeap{Objs: objs(guard(), data("a")), Roots: roots(0, 1), Watch: watches(0, 1), Ready: watches(0, 1)}, -1, 0, 1)
	wantCollect(t, "it does not come back by its own Watch",
		impl.MemHeap{Objs: objs(guard()), Roots: roots(-1), Watch: watches(0, 0), Ready: watches(0, 0)},
		impl.MemHeap{Objs: nil, Roots: roots(-1)}, -1)
	wantCollect(t, "two that watch each other",
		impl.MemHeap{Objs: objs(guard(), guard(), data("a")), Roots: roots(2), Watch: watches(0, 1, 1, 0)},
		impl.MemHeap{Objs: objs(data("a")), Roots: roots(0)}, -1, -1, 0)
	wantCollect(t, "the first of a weak pair",
		impl.MemHeap{Objs: objs(weak(1, -1), guard(), data("a")), Roots: roots(0), Watch: watches(1, 2)},
		impl.MemHeap{Objs: objs(weak(-1, -1)), Roots: roots(0)}, 0, -1, -1)
	wantCollect(t, "it keeps nothing that it watches from being told to another",
		impl.MemHeap{Objs: objs(guard(), guard(), data("a")), Roots: roots(1), Watch: watches(0, 2, 1, 2), Ready: watches(0, 2)},
		impl.MemHeap{Objs: objs(guard(), data("a")), Roots: roots(0), Ready: watches(0, 1)}, -1, 0, 1)
}

func TestCollectAtTheLimits(t *testing.T) {
	var all, mixed []impl.MemWatch
	var moves []int
	h := impl.MemHeap{Objs: objs(guard(), guard()), Roots: roots(0, 1, -1, -1, -1, -1, -1, 0)}
	for i := range impl.MemMaxWatch {
		h.Objs = append(h.Objs, data(string(rune('a'+i))))
		all = append(all, impl.MemWatch{Guard: 0, Obj: 2 + i})
		mixed = append(mixed, impl.MemWatch{Guard: i % 2, Obj: 2 + i})
	}
	for i := range h.Objs {
		moves = append(moves, i)
	}
	h.Watch = all
	want := copyOf(h)
	want.Watch, want.Ready = nil, all
	wantCollect(t, "20 watched, all told", h, want, moves...)
	h.Watch, h.Ready = all[12:], all[:12]
	wantCollect(t, "8 told behind 12", h, want, moves...)
	h.Watch, h.Ready = nil, all
	wantCollect(t, "20 Ready", h, want, moves...)
	h.Watch, h.Ready = mixed, nil
	x, _ := impl.MemCollect(h)
	for i, w := range x.Ready {
		// the first guardian comes to the even ones ahead of all that the second one does
		if where := 2 + i/2 + i%2*10; w != (impl.MemWatch{Guard: i % 2, Obj: where}) || x.Objs[where].Text != h.Objs[2+i].Text {
			t.Errorf("20 told to two by turns: %+v", x)
		}
	}
	if len(x.Ready) != impl.MemMaxWatch || len(x.Watch) != 0 || len(x.Objs) != len(h.Objs) {
		t.Errorf("20 told to two by turns: %+v", x)
	}
	same := impl.MemHeap{Objs: objs(guard(), data("a")), Roots: roots(0), Watch: slices.Repeat(watches(0, 1), impl.MemMaxWatch)}
	wantCollect(t, "one watched 20 times", same, impl.MemHeap{Objs: same.Objs, Roots: same.Roots, Ready: same.Watch}, 0, 1)
}

func TestCollectOf60Objects(t *testing.T) {
	row := impl.MemHeap{Roots: roots(59)}
	back := impl.MemHeap{Roots: roots(0)}
	var moves, gone []int
	for i := range impl.MemMaxObjs {
		row.Objs = append(row.Objs, cell(i-1, i, -1, -1, -1, -1))
		back.Objs = append(back.Objs, cell(i+1, i, -1, -1, -1, -1))
		moves = append(moves, 59-i)
		gone = append(gone, -1)
	}
	back.Objs[59] = cell(-1, 59, -1, -1, -1, -1)
	wantCollect(t, "a row of 60, from its end", row, back, moves...)
	row.Roots = roots(-1)
	wantCollect(t, "a row of 60, not known", row, impl.MemHeap{Roots: roots(-1)}, gone...)
	row.Roots = slices.Repeat(roots(0), impl.MemMaxRoots)
	wantCollect(t, "a row of 60, its beginning known", row,
		impl.MemHeap{Objs: objs(cell(-1, 0, -1, -1, -1, -1)), Roots: row.Roots}, append([]int{0}, gone[1:]...)...)
	row.Roots = roots(59)
	row.Objs[0] = guard()
	row.Watch = watches(0, 59, 0, 0)
	x, moves := impl.MemCollect(row)
	if len(x.Objs) != 60 || !slices.Equal(x.Watch, watches(59, 0, 59, 59)) || len(x.Ready) != 0 || moves[0] != 59 {
		t.Errorf("60 with a guardian: %+v %v", x, moves)
	}
}

func TestCollectOfHeapsThatAreNotOk(t *testing.T) {
	for _, bad := range badHeaps() {
		wantCollect(t, bad.name, bad.heap, impl.MemHeap{})
	}
}

func TestCollectOfManyHeaps(t *testing.T) {
	turns := make([]int, impl.MemMaxWatch+1)
	for _, h := range toldHeaps() {
		want, moves := collectOf(h)
		wantCollect(t, "a heap", h, want, moves...)
		if t.Failed() {
			return
		}
		_, many := tellingOf(h)
		turns[many]++
	}
	if turns[0] < 300 || turns[1] < 300 || turns[2] < 100 || turns[3] < 10 {
		t.Errorf("the heaps tell too little: so many are told in 0, 1, 2 .. turns: %v", turns)
	}
}

// Promise 2, without the order: what is kept is what can be come to, and what was told, with all that can be come to from it.
func TestCollectKeepsJustThat(t *testing.T) {
	for _, h := range toldHeaps() {
		x, moves := impl.MemCollect(h)
		if len(moves) != len(h.Objs) || !impl.MemOk(x) {
			t.Fatalf("%+v gives %+v, which must be ok, and %v", h, x, moves)
		}
		for _, p := range impl.MemReach(h) {
			if moves[p] == -1 {
				t.Fatalf("%d can be come to and is gone: %+v", p, h)
			}
		}
		for i, p := range impl.MemReach(x) {
			if i != p {
				t.Fatalf("%+v does not stand in the order of its MemReach", x)
			}
		}
		if len(impl.MemReach(x)) != len(x.Objs) {
			t.Fatalf("%+v keeps what cannot be come to", x)
		}
		wantMovedParts(t, h, x, moves)
	}
}

// wantMovedParts asks that each object that is kept has its Kind, Text and parts, and all Roots are where they have gone.
func wantMovedParts(t *testing.T, h, x impl.MemHeap, moves []int) {
	t.Helper()
	taken := make([]bool, len(x.Objs))
	gone := func(p int) int {
		if p == -1 {
			return -1
		}
		return moves[p]
	}
	for p, o := range h.Objs {
		to := moves[p]
		if to == -1 {
			continue
		}
		if to < 0 || to >= len(x.Objs) || taken[to] {
			t.Fatalf("%v are not places of %+v, each of one", moves, x)
		}
		taken[to] = true
		n := x.Objs[to]
		if n.Kind != o.Kind || n.Text != o.Text || len(n.Refs) != len(o.Refs) {
			t.Fatalf("%+v has become %+v", o, n)
		}
		for at, ref := range o.Refs {
			if n.Refs[at] != gone(ref) || n.Refs[at] == -1 && ref != -1 && (o.Kind != impl.MemWeak || at != 0) {
				t.Fatalf("part %d of %+v has become %+v, moves are %v", at, o, n, moves)
			}
		}
	}
	if slices.Contains(taken, false) {
		t.Fatalf("%+v has what does not come from %+v by %v", x, h, moves)
	}
	for i, p := range h.Roots {
		if len(x.Roots) != len(h.Roots) || x.Roots[i] != gone(p) || x.Roots[i] == -1 && p != -1 {
			t.Fatalf("Roots %v have become %v, moves are %v", h.Roots, x.Roots, moves)
		}
	}
}

// Promise 3.
func TestCollectOfWhatWasCollected(t *testing.T) {
	for _, h := range toldHeaps() {
		x, _ := impl.MemCollect(h)
		var stay []int
		for i := range x.Objs {
			stay = append(stay, i)
		}
		wantCollect(t, "collected again", x, copyOf(x), stay...)
	}
}

func countOf(list []impl.MemWatch, guard, obj int) int {
	many := 0
	for _, w := range list {
		if w.Guard == guard && w.Obj == obj {
			many++
		}
	}
	return many
}

// Promise 4.
func TestCollectTellsGuardians(t *testing.T) {
	told, still := 0, 0
	for _, h := range toldHeaps() {
		reach := impl.MemReach(h)
		x, moves := impl.MemCollect(h)
		for _, w := range h.Watch {
			if !slices.Contains(reach, w.Guard) {
				continue
			}
			guard, obj := moves[w.Guard], moves[w.Obj]
			if guard == -1 || obj == -1 {
				t.Fatalf("%+v must be kept: %+v gives %v", w, h, moves)
			}
			watched, ready := countOf(h.Watch, w.Guard, w.Obj), countOf(h.Ready, w.Guard, w.Obj)
			if slices.Contains(reach, w.Obj) {
				still++
			} else {
				told++
				watched, ready = 0, ready+watched
			}
			if countOf(x.Watch, guard, obj) != watched || countOf(x.Ready, guard, obj) != ready {
				t.Fatalf("%+v must be in Watch %d times, in Ready %d times: %+v gives %+v", w, watched, ready, h, x)
			}
		}
	}
	if told < 1000 || still < 1000 {
		t.Errorf("the heaps tell too little: %d told, %d still watched", told, still)
	}
}

// Promise 6, its last part.
func TestCollectedIsTheSameIfAllThatIsWatchedCanBeComeTo(t *testing.T) {
	asked := 0
	for _, h := range toldHeaps() {
		reach := impl.MemReach(h)
		h.Watch = slices.DeleteFunc(h.Watch, func(w impl.MemWatch) bool { return !slices.Contains(reach, w.Obj) })
		x, _ := impl.MemCollect(h)
		wantSame(t, "collected", h, x, true)
		if len(h.Watch) > 0 && len(reach) < len(h.Objs) {
			asked++
		}
	}
	if asked < 200 {
		t.Errorf("the heaps tell too little: of %d something is watched, and something gone", asked)
	}
	told := impl.MemHeap{Objs: objs(guard(), data("a")), Roots: roots(0), Watch: watches(0, 1)}
	x, _ := impl.MemCollect(told)
	wantSame(t, "where a guardian was told", told, x, false)
}

// manyTellers is 10 guardians with 2 objects each to be told of at once, watched in no guardian's order.
func manyTellers() impl.MemHeap {
	h := impl.MemHeap{Objs: objs(cell(2, 3, 4, 5, 6, 7), cell(8, 9, 10, 11)), Roots: roots(0, 1)}
	h.Objs = append(h.Objs, slices.Repeat(objs(guard()), 10)...)
	for i := range impl.MemMaxWatch {
		h.Objs = append(h.Objs, data(string(rune('a'+i))))
		h.Watch = append(h.Watch, impl.MemWatch{Guard: 2 + i*7%10, Obj: 12 + i})
	}
	return h
}

func TestCollectDoesNotHangOnWhoTellsFirst(t *testing.T) {
	h := manyTellers()
	want, moves := collectOf(h)
	for _, threads := range []int{1, 2, 8} {
		before := runtime.GOMAXPROCS(threads)
		for range 500 {
			wantCollect(t, "many tellers", h, want, moves...)
		}
		runtime.GOMAXPROCS(before)
	}
}

func TestCollectFromMany(t *testing.T) {
	h := manyTellers()
	want, moves := collectOf(h)
	var callers sync.WaitGroup
	for range 8 {
		callers.Go(func() {
			for range 100 {
				wantCollect(t, "many callers", h, want, moves...)
			}
		})
	}
	callers.Wait()
}

func TestCollectLeavesNobodyRunning(t *testing.T) {
	before := runtime.NumGoroutine()
	for _, h := range append(toldHeaps(), manyTellers()) {
		impl.MemCollect(h)
	}
	// What has done its work may still be on its way out.
	for range 1000 {
		if runtime.NumGoroutine() <= before {
			return
		}
		time.Sleep(time.Millisecond)
	}
	t.Errorf("%d are running, there were %d", runtime.NumGoroutine(), before)
}
