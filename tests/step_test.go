package tests

import (
	"fmt"
	"math"
	"slices"
	"strings"
	"testing"

	"loop.example/sismem/impl"
)

func makes(to int, o impl.MemObj) impl.MemEvent {
	return impl.MemEvent{Kind: impl.MemMakes, To: to, Obj: o}
}

func takes(to, from, at int) impl.MemEvent {
	return impl.MemEvent{Kind: impl.MemTakes, To: to, From: from, At: at}
}

func sets(to, at, from int) impl.MemEvent {
	return impl.MemEvent{Kind: impl.MemSets, To: to, At: at, From: from}
}

func forgets(to int) impl.MemEvent { return impl.MemEvent{Kind: impl.MemForgets, To: to} }

func watching(to, from int) impl.MemEvent {
	return impl.MemEvent{Kind: impl.MemWatches, To: to, From: from}
}

func asks(to, from int) impl.MemEvent {
	return impl.MemEvent{Kind: impl.MemAsks, To: to, From: from}
}

func collects() impl.MemEvent { return impl.MemEvent{Kind: impl.MemCollects} }

// Places of Roots of knowing, by what is known there; none of them is the place of its object.
const (
	atCell   = 0
	atGuard  = 1
	atData   = 2
	atNone   = 3
	atWeak   = 4
	atSecond = 5
	atLast   = 6
)

// knowing has each kind known, and two guardians; 1 is what only a weak part and a guardian have, 6 what nobody has.
func knowing() impl.MemHeap {
	return impl.MemHeap{
		Objs:  objs(weak(1, 3), data("b"), guard(), data("a"), guard(), cell(3, -1, 0), data("gone")),
		Roots: roots(5, 4, 3, -1, 0, 2, 5),
		Watch: watches(4, 5, 2, 6),
		Ready: watches(2, 3, 4, 1, 4, 0, 2, 0, 4, 1),
	}
}

// changed is a heap after one change.
func changed(h impl.MemHeap, change func(h *impl.MemHeap)) impl.MemHeap {
	c := copyOf(h)
	change(&c)
	return c
}

// known is a heap in which one object more is known at a place.
func known(h impl.MemHeap, root int, o impl.MemObj) impl.MemHeap {
	return changed(h, func(c *impl.MemHeap) { c.Roots[root] = len(c.Objs); c.Objs = append(c.Objs, o) })
}

// rooted is a heap in which a place of Objs, or -1, is known at a place.
func rooted(h impl.MemHeap, root, place int) impl.MemHeap {
	return changed(h, func(c *impl.MemHeap) { c.Roots[root] = place })
}

// parted is a heap in which one part of an object is another.
func parted(h impl.MemHeap, place, at, part int) impl.MemHeap {
	return changed(h, func(c *impl.MemHeap) { c.Objs[place].Refs[at] = part })
}

func wantStep(t *testing.T, name string, h impl.MemHeap, e impl.MemEvent, want impl.MemHeap, wantSeen string) {
	t.Helper()
	x, seen := impl.MemStep(h, e)
	if !equalHeaps(x, want) || seen != wantSeen {
		t.Errorf("%s: MemStep of\n%+v by %+v is\n%+v %q, asked is\n%+v %q", name, h, e, x, seen, want, wantSeen)
	}
}

// wantRefused asks that nothing changes.
func wantRefused(t *testing.T, name string, h impl.MemHeap, e impl.MemEvent, wantSeen string) {
	t.Helper()
	wantStep(t, name, h, e, h, wantSeen)
}

// noRoots are numbers that are no places of that many Roots.
func noRoots(size int) []int { return append(noPlaces(size), -1) }

func TestKnowingIsMadeAsSaid(t *testing.T) {
	h := knowing()
	if !impl.MemOk(h) {
		t.Fatal("must be ok")
	}
	kinds := map[int]int{atCell: impl.MemCell, atGuard: impl.MemGuard, atData: impl.MemData, atWeak: impl.MemWeak, atSecond: impl.MemGuard, atLast: impl.MemCell}
	for root, place := range h.Roots {
		if place == root {
			t.Errorf("the object at %d is at the same place of Objs", root)
		}
		if place >= 0 && h.Objs[place].Kind != kinds[root] || place < 0 && root != atNone {
			t.Errorf("at %d there is %d", root, place)
		}
	}
}

func TestMakes(t *testing.T) {
	h := knowing()
	wantStep(t, "data", h, makes(atNone, data("pear9")), known(h, atNone, data("pear9")), "pear9")
	wantStep(t, "data of 12 bytes", h, makes(atData, data("abcdefghij09")), known(h, atData, data("abcdefghij09")), "abcdefghij09")
	wantStep(t, "data that read like no answer", h, makes(atData, data("no")), known(h, atData, data("no")), "no")
	wantStep(t, "data like full", h, makes(atData, data("full")), known(h, atData, data("full")), "full")
	wantStep(t, "data like what there is", h, makes(atCell, data("a")), known(h, atCell, data("a")), "a")
	wantStep(t, "a guardian", h, makes(atLast, guard()), known(h, atLast, guard()), "guardian")
	wantStep(t, "a cell of none", h, makes(atNone, cell()), known(h, atNone, cell()), "cell of 0")
	wantStep(t, "a cell, at a place where something was known", h, makes(atData, cell(atCell)), known(h, atData, cell(5)), "cell of 1")
	wantStep(t, "a cell of what was known at its own place", h, makes(atData, cell(atData, atNone, atData)), known(h, atData, cell(3, -1, 3)), "cell of 3")
	wantStep(t, "a cell of each kind", h, makes(atNone, cell(atLast, atSecond, atWeak, atNone, atData, atGuard)), known(h, atNone, cell(5, 2, 0, -1, 3, 4)), "cell of 6")
	wantStep(t, "a weak pair", h, makes(atNone, weak(atData, atWeak)), known(h, atNone, weak(3, 0)), "weak")
	wantStep(t, "a weak pair of nothing", h, makes(atNone, weak(atNone, atNone)), known(h, atNone, weak(-1, -1)), "weak")
	wantStep(t, "the first of all objects", impl.MemHeap{Roots: roots(-1)}, makes(0, cell(0)), impl.MemHeap{Objs: objs(cell(-1)), Roots: roots(0)}, "cell of 1")
	for _, root := range noRoots(len(h.Roots)) {
		name := fmt.Sprintf("Refs of %d, no place", root)
		wantStep(t, name, h, makes(atNone, cell(root, atData, root)), known(h, atNone, cell(-1, 3, -1)), "cell of 3")
		wantStep(t, name, h, makes(atNone, weak(atData, root)), known(h, atNone, weak(3, -1)), "weak")
		wantStep(t, name, h, makes(atNone, weak(root, atData)), known(h, atNone, weak(-1, 3)), "weak")
	}
	wantStep(t, "lists of none, not nil", h, makes(atNone, impl.MemObj{Kind: impl.MemData, Text: "a", Refs: []int{}}), known(h, atNone, data("a")), "a")
	busy := impl.MemEvent{Kind: impl.MemMakes, To: atNone, From: -7, At: 99, Obj: data("x")}
	wantStep(t, "From and At, which do not matter", h, busy, known(h, atNone, data("x")), "x")
}

// badObjs are objects that would not be ok, whatever is known.
func badObjs() []impl.MemObj {
	return []impl.MemObj{
		{}, {Kind: 5}, {Kind: -1}, {Kind: math.MinInt}, {Kind: math.MaxInt}, {Kind: 5, Text: "a"}, {Text: "a"}, {Refs: []int{atData}},
		data(""), data("abcdefghij090"), data("A"), data("a b"), data("a\n"), data("é"), data("a\xff"), data("-"), data(strings.Repeat("a", 5000)),
		{Kind: impl.MemData, Text: "a", Refs: []int{atData}}, {Kind: impl.MemData, Text: "a", Refs: []int{atNone}}, {Kind: impl.MemData, Refs: []int{atData}},
		cell(0, 1, 2, 3, 4, 5, 6), cell(slices.Repeat([]int{atNone}, 7)...), cell(slices.Repeat([]int{99}, 7)...), cell(slices.Repeat([]int{atData}, 5000)...),
		{Kind: impl.MemCell, Text: "a"}, {Kind: impl.MemCell, Text: "a", Refs: []int{atData}},
		{Kind: impl.MemWeak}, {Kind: impl.MemWeak, Refs: []int{atData}}, {Kind: impl.MemWeak, Refs: []int{atData, atData, atData}},
		{Kind: impl.MemWeak, Text: "a", Refs: []int{atData, atData}}, {Kind: impl.MemWeak, Text: "a"}, {Kind: impl.MemWeak, Refs: []int{atNone, atNone, atNone}},
		{Kind: impl.MemGuard, Text: "a"}, {Kind: impl.MemGuard, Refs: []int{atData}}, {Kind: impl.MemGuard, Refs: []int{atNone}},
	}
}

func TestMakesNothingThatIsNotOk(t *testing.T) {
	for _, o := range badObjs() {
		wantRefused(t, "an object that is not ok", knowing(), makes(atNone, o), "no")
	}
}

// filled is knowing with that many objects.
func filled(size int) impl.MemHeap {
	h := knowing()
	for len(h.Objs) < size {
		h.Objs = append(h.Objs, data("more"))
	}
	return h
}

func TestMakesUntilThereAre60(t *testing.T) {
	almost, full := filled(impl.MemMaxObjs-1), filled(impl.MemMaxObjs)
	for _, o := range objs(data("a"), cell(), cell(atData, 99, atNone), weak(atData, 99), guard()) {
		x, seen := impl.MemStep(almost, makes(atNone, o))
		if len(x.Objs) != impl.MemMaxObjs || x.Roots[atNone] != impl.MemMaxObjs-1 || !impl.MemOk(x) || seen == "full" || seen == "no" {
			t.Errorf("the 60th object is refused: %+v %q", o, seen)
		}
		wantRefused(t, "one more", full, makes(atNone, o), "full")
		wantRefused(t, "one more behind the 60th", x, makes(atNone, o), "full")
		for _, to := range noRoots(len(full.Roots)) {
			wantRefused(t, "no ahead of full, by To", full, makes(to, o), "no")
		}
	}
	for _, o := range badObjs() {
		wantRefused(t, "no ahead of full, by the object", full, makes(atNone, o), "no")
	}
}

func TestMakesAgainWhenCollected(t *testing.T) {
	full := filled(impl.MemMaxObjs)
	room, seen := impl.MemStep(full, collects())
	if seen != "ok" || len(room.Objs) != 7 {
		t.Fatalf("%d objects are left, %q", len(room.Objs), seen)
	}
	wantStep(t, "room again", room, makes(atNone, data("a")), known(room, atNone, data("a")), "a")
}

func TestTakes(t *testing.T) {
	h := knowing()
	wantStep(t, "data of a cell", h, takes(atNone, atCell, 0), rooted(h, atNone, 3), "a")
	wantStep(t, "a part that is nothing", h, takes(atData, atCell, 1), rooted(h, atData, -1), "none")
	wantStep(t, "a part that is nothing, to where nothing is", h, takes(atNone, atCell, 1), h, "none")
	wantStep(t, "a weak pair of a cell", h, takes(atNone, atCell, 2), rooted(h, atNone, 0), "weak")
	wantStep(t, "a weak part", h, takes(atNone, atWeak, 0), rooted(h, atNone, 1), "b")
	wantStep(t, "the second of a weak pair", h, takes(atNone, atWeak, 1), rooted(h, atNone, 3), "a")
	wantStep(t, "to where it is from", h, takes(atWeak, atWeak, 0), rooted(h, atWeak, 1), "b")
	wantStep(t, "to where it is from, nothing", h, takes(atCell, atCell, 1), rooted(h, atCell, -1), "none")
	broken := parted(h, 0, 0, -1)
	wantStep(t, "a weak part that is nothing", broken, takes(atData, atWeak, 0), rooted(broken, atData, -1), "none")
	guards := parted(h, 5, 1, 2)
	wantStep(t, "a guardian of a cell", guards, takes(atNone, atCell, 1), rooted(guards, atNone, 2), "guardian")
	wide := known(h, atNone, cell(5, -1, 3, 2, 0, 3))
	wantStep(t, "the last part there may be", wide, takes(atData, atNone, 5), rooted(wide, atData, 3), "a")
	wantStep(t, "a cell of a cell", wide, takes(atData, atNone, 0), rooted(wide, atData, 5), "cell of 3")
	busy := impl.MemEvent{Kind: impl.MemTakes, To: atNone, From: atCell, Obj: impl.MemObj{Kind: 9, Text: "A"}}
	wantStep(t, "Obj, which does not matter", h, busy, rooted(h, atNone, 3), "a")
}

func TestSets(t *testing.T) {
	h := knowing()
	wantStep(t, "to data", h, sets(atCell, 1, atData), parted(h, 5, 1, 3), "ok")
	wantStep(t, "to nothing", h, sets(atCell, 0, atNone), parted(h, 5, 0, -1), "ok")
	wantStep(t, "from nothing to nothing", h, sets(atCell, 1, atNone), h, "ok")
	wantStep(t, "to itself", h, sets(atCell, 0, atCell), parted(h, 5, 0, 5), "ok")
	wantStep(t, "to a guardian", h, sets(atLast, 2, atSecond), parted(h, 5, 2, 2), "ok")
	wantStep(t, "a weak part", h, sets(atWeak, 0, atGuard), parted(h, 0, 0, 4), "ok")
	wantStep(t, "a weak part to nothing", h, sets(atWeak, 0, atNone), parted(h, 0, 0, -1), "ok")
	wantStep(t, "the second of a weak pair", h, sets(atWeak, 1, atWeak), parted(h, 0, 1, 0), "ok")
	for _, from := range noRoots(len(h.Roots)) {
		wantStep(t, "to what is known at no place", h, sets(atCell, 0, from), parted(h, 5, 0, -1), "ok")
		wantStep(t, "a weak pair to what is known at no place", h, sets(atWeak, 1, from), parted(h, 0, 1, -1), "ok")
	}
	wide := known(h, atNone, cell(5, -1, 3, 2, 0, 3))
	wantStep(t, "the last part there may be", wide, sets(atNone, 5, atCell), parted(wide, 7, 5, 5), "ok")
}

func TestNoPartThatIsNotThere(t *testing.T) {
	h := knowing()
	empty := known(h, atLast, cell())
	kinds := []func(root, at int) impl.MemEvent{
		func(root, at int) impl.MemEvent { return takes(atNone, root, at) },
		func(root, at int) impl.MemEvent { return takes(root, root, at) },
		func(root, at int) impl.MemEvent { return sets(root, at, atCell) },
		func(root, at int) impl.MemEvent { return sets(root, at, atNone) },
	}
	for _, part := range kinds {
		for _, at := range noRoots(3) {
			wantRefused(t, "past the parts of a cell", h, part(atCell, at), "no")
		}
		for _, at := range noRoots(2) {
			wantRefused(t, "past the parts of a weak pair", h, part(atWeak, at), "no")
		}
		for at := -1; at < 7; at++ {
			wantRefused(t, "of a cell of none", empty, part(atLast, at), "no")
			wantRefused(t, "of data", h, part(atData, at), "no")
			wantRefused(t, "of a guardian, told or not", h, part(atGuard, at), "no")
			wantRefused(t, "of nothing", h, part(atNone, at), "no")
			for _, root := range noRoots(len(h.Roots)) {
				wantRefused(t, "of no place", h, part(root, at), "no")
			}
		}
	}
}

func TestForgets(t *testing.T) {
	h := knowing()
	for root := range h.Roots {
		wantStep(t, "forgets", h, forgets(root), rooted(h, root, -1), "ok")
	}
	busy := impl.MemEvent{Kind: impl.MemForgets, To: atData, From: -9, At: 77, Obj: impl.MemObj{Kind: 9}}
	wantStep(t, "what does not matter", h, busy, rooted(h, atData, -1), "ok")
}

func TestWatches(t *testing.T) {
	h := knowing()
	for root, place := range h.Roots {
		for _, g := range []int{atGuard, atSecond} {
			if root == atNone {
				wantRefused(t, "nothing", h, watching(g, root), "no")
				continue
			}
			more := changed(h, func(c *impl.MemHeap) { c.Watch = append(c.Watch, impl.MemWatch{Guard: h.Roots[g], Obj: place}) })
			wantStep(t, "watches", h, watching(g, root), more, "ok")
			again := changed(more, func(c *impl.MemHeap) { c.Watch = append(c.Watch, impl.MemWatch{Guard: h.Roots[g], Obj: place}) })
			wantStep(t, "watches again", more, watching(g, root), again, "ok")
		}
		if root != atGuard && root != atSecond {
			wantRefused(t, "by no guardian", h, watching(root, atData), "no")
			wantRefused(t, "nothing, by no guardian", h, watching(root, atNone), "no")
		}
	}
	for _, from := range noRoots(len(h.Roots)) {
		wantRefused(t, "what is known at no place", h, watching(atGuard, from), "no")
	}
}

// watchful is knowing with that many of Watch and Ready together, ready of them in Ready.
func watchful(all, ready int) impl.MemHeap {
	h := knowing()
	h.Ready = slices.Repeat(watches(2, 3), ready)
	h.Watch = slices.Repeat(watches(4, 5), all-ready)
	return h
}

func TestWatchesUntilThereAre20(t *testing.T) {
	for _, ready := range []int{0, 1, 10, 19} {
		almost, full := watchful(impl.MemMaxWatch-1, ready), watchful(impl.MemMaxWatch, ready)
		more := changed(almost, func(c *impl.MemHeap) { c.Watch = append(c.Watch, impl.MemWatch{Guard: 2, Obj: 3}) })
		wantStep(t, "the 20th", almost, watching(atSecond, atData), more, "ok")
		wantRefused(t, "one more", full, watching(atSecond, atData), "full")
		wantRefused(t, "one more of what is watched", full, watching(atGuard, atCell), "full")
		wantRefused(t, "no ahead of full, nothing", full, watching(atSecond, atNone), "no")
		for _, root := range []int{atCell, atData, atNone, atWeak} {
			wantRefused(t, "no ahead of full, no guardian", full, watching(root, atData), "no")
		}
		for _, root := range noRoots(len(full.Roots)) {
			wantRefused(t, "no ahead of full, From", full, watching(atSecond, root), "no")
			wantRefused(t, "no ahead of full, To", full, watching(root, atData), "no")
		}
	}
	told := watchful(impl.MemMaxWatch, impl.MemMaxWatch)
	wantRefused(t, "20 of Ready", told, watching(atSecond, atData), "full")
	room, seen := impl.MemStep(told, asks(atNone, atSecond))
	if seen != "a" {
		t.Fatalf("asked: %q", seen)
	}
	more := changed(room, func(c *impl.MemHeap) { c.Watch = append(c.Watch, impl.MemWatch{Guard: 4, Obj: 3}) })
	wantStep(t, "room again when asked", room, watching(atGuard, atData), more, "ok")
}

// told is a heap with another Ready.
func told(h impl.MemHeap, places ...int) impl.MemHeap {
	return changed(h, func(c *impl.MemHeap) { c.Ready = watches(places...) })
}

func TestAsks(t *testing.T) {
	h := knowing()
	first := told(rooted(h, atNone, 1), 2, 3, 4, 0, 2, 0, 4, 1)
	wantStep(t, "the first", h, asks(atNone, atGuard), first, "b")
	second := told(rooted(first, atNone, 0), 2, 3, 2, 0, 4, 1)
	wantStep(t, "the second", first, asks(atNone, atGuard), second, "weak")
	third := told(rooted(second, atNone, 1), 2, 3, 2, 0)
	wantStep(t, "the first again, as it was told twice", second, asks(atNone, atGuard), third, "b")
	wantStep(t, "no more", third, asks(atNone, atGuard), rooted(third, atNone, -1), "none")
	wantStep(t, "no more, to where nothing is", third, asks(atData, atGuard), rooted(third, atData, -1), "none")
	wantStep(t, "the other guardian", third, asks(atCell, atSecond), told(rooted(third, atCell, 3), 2, 0), "a")
	wantStep(t, "the other guardian, ahead of the first", h, asks(atCell, atSecond), told(rooted(h, atCell, 3), 4, 1, 4, 0, 2, 0, 4, 1), "a")
	wantStep(t, "to where the guardian is", h, asks(atGuard, atGuard), told(rooted(h, atGuard, 1), 2, 3, 4, 0, 2, 0, 4, 1), "b")
	wantStep(t, "to where the guardian is, none", third, asks(atGuard, atGuard), rooted(third, atGuard, -1), "none")
	wantStep(t, "to where the other is", h, asks(atSecond, atGuard), told(rooted(h, atSecond, 1), 2, 3, 4, 0, 2, 0, 4, 1), "b")
	itself := told(h, 4, 4, 4, 5)
	wantStep(t, "told of itself", itself, asks(atNone, atGuard), told(rooted(h, atNone, 4), 4, 5), "guardian")
	wantStep(t, "told of a cell", told(h, 4, 5), asks(atNone, atGuard), told(rooted(h, atNone, 5)), "cell of 3")
	wantStep(t, "nobody was told", told(h), asks(atData, atGuard), told(rooted(h, atData, -1)), "none")
	wantStep(t, "what is watched is not told", told(h), asks(atNone, atSecond), told(h), "none")
}

func TestAsksNobodyButGuardians(t *testing.T) {
	h := knowing()
	for _, from := range append(noRoots(len(h.Roots)), atCell, atData, atNone, atWeak, atLast) {
		for to := range h.Roots {
			wantRefused(t, "asked is no guardian", h, asks(to, from), "no")
		}
	}
}

func TestAsksForAllInOrder(t *testing.T) {
	h := manyTellers()
	h.Roots = append(h.Roots, -1, -1)
	h, _ = impl.MemStep(h, collects())
	want := map[int][]string{}
	for _, w := range h.Ready {
		want[w.Guard] = append(want[w.Guard], h.Objs[w.Obj].Text)
	}
	all := 0
	for cellAt := range 2 {
		for at := range h.Objs[h.Roots[cellAt]].Refs {
			h, _ = impl.MemStep(h, takes(2, cellAt, at))
			for _, text := range append(want[h.Roots[2]], "none", "none") {
				x, seen := impl.MemStep(h, asks(3, 2))
				if seen != text {
					t.Fatalf("told is %q, asked is %q", seen, text)
				}
				h, all = x, all+1
			}
		}
	}
	if all != impl.MemMaxWatch+2*10 || len(h.Ready) != 0 {
		t.Errorf("%d were asked, %v left", all, h.Ready)
	}
}

func TestCollects(t *testing.T) {
	for i, h := range toldHeaps() {
		want, _ := collectOf(h)
		e := collects()
		e.To = append(noRoots(len(h.Roots)), 0, 1, 7)[i%12]
		e.From, e.At, e.Obj = 9-i%20, i%5, impl.MemObj{Kind: i % 7, Text: "A", Refs: []int{i}}
		wantStep(t, "collects", h, e, want, "ok")
		if t.Failed() {
			return
		}
	}
	wantStep(t, "without Roots", impl.MemHeap{Objs: objs(data("a"))}, collects(), impl.MemHeap{}, "ok")
	wantStep(t, "without anything", impl.MemHeap{}, collects(), impl.MemHeap{}, "ok")
}

// eachKind is an event of each kind that happens to knowing, at its place To.
func eachKind() []impl.MemEvent {
	return []impl.MemEvent{makes(atCell, data("x")), takes(atCell, atCell, 0), sets(atCell, 0, atWeak), forgets(atCell), watching(atGuard, atCell), asks(atCell, atGuard)}
}

func TestToIsAPlaceOfRoots(t *testing.T) {
	h := knowing()
	for _, e := range eachKind() {
		if x, seen := impl.MemStep(h, e); seen == "no" || equalHeaps(x, h) {
			t.Fatalf("must happen: %+v %q", e, seen)
		}
		for _, to := range noRoots(len(h.Roots)) {
			e.To = to
			wantRefused(t, "To is no place", h, e, "no")
		}
		e.To = 0
		wantRefused(t, "there are no Roots", impl.MemHeap{Objs: objs(guard()), Ready: watches(0, 0)}, e, "no")
	}
}

func TestToMayBeTheLastPlace(t *testing.T) {
	h := knowing()
	wantStep(t, "the last", h, makes(atLast, data("x")), known(h, atLast, data("x")), "x")
	wantStep(t, "the last", h, takes(atLast, atLast, 0), rooted(h, atLast, 3), "a")
	wantStep(t, "the last", h, sets(atLast, 0, atLast), parted(h, 5, 0, 5), "ok")
	wantStep(t, "the last", h, forgets(atLast), rooted(h, atLast, -1), "ok")
	eight := changed(h, func(c *impl.MemHeap) { c.Roots = append(c.Roots, 4) })
	more := changed(eight, func(c *impl.MemHeap) { c.Watch = append(c.Watch, impl.MemWatch{Guard: 4, Obj: 4}) })
	wantStep(t, "the last of 8", eight, watching(7, 7), more, "ok")
	wantStep(t, "the last of 8", eight, asks(7, 7), told(rooted(eight, 7, 1), 2, 3, 4, 0, 2, 0, 4, 1), "b")
}

func TestOtherKinds(t *testing.T) {
	for _, kind := range []int{0, -1, 8, 9, -7, 64, 1 << 32, 1<<32 + 1, math.MinInt, math.MaxInt} {
		for _, e := range append(eachKind(), collects()) {
			e.Kind = kind
			wantRefused(t, "another Kind", knowing(), e, "no")
			e.To = 99
			wantRefused(t, "another Kind, To no place", knowing(), e, "no")
		}
	}
}

func TestStepOfHeapsThatAreNotOk(t *testing.T) {
	events := append(eachKind(), collects(), makes(0, data("a")), forgets(0), impl.MemEvent{Kind: 8}, forgets(-1), asks(0, 0))
	for _, bad := range badHeaps() {
		for _, e := range events {
			wantStep(t, bad.name, bad.heap, e, impl.MemHeap{}, "no")
		}
	}
}

// root is a place of Roots, now and then no place.
func (d *dice) root(h impl.MemHeap) int { return d.below(len(h.Roots)+2) - 1 }

// event is one of any kind, that may well be refused.
func (d *dice) event(h impl.MemHeap) impl.MemEvent {
	e := impl.MemEvent{Kind: 1 + d.below(7), To: d.root(h), From: d.root(h), At: d.below(5) - 1, Obj: d.obj(len(h.Roots))}
	for at := range e.Obj.Refs {
		e.Obj.Refs[at] = d.root(h)
	}
	switch d.below(20) {
	case 0:
		e.Kind = []int{0, 8, -1}[d.below(3)]
	case 1:
		e.Obj = badObjs()[d.below(len(badObjs()))]
	}
	return e
}

// seenText is how the document says an object is seen.
func seenText(h impl.MemHeap, place int) string {
	if place == -1 {
		return "none"
	}
	o := h.Objs[place]
	return []string{o.Text, fmt.Sprintf("cell of %d", len(o.Refs)), "weak", "guardian"}[o.Kind-1]
}

// knownAt is the object that is known at a place, -1 if nothing is, or if it is no place.
func knownAt(h impl.MemHeap, root int) int {
	if root < 0 || root >= len(h.Roots) {
		return -1
	}
	return h.Roots[root]
}

func isGuard(h impl.MemHeap, place int) bool {
	return place != -1 && h.Objs[place].Kind == impl.MemGuard
}

func hasPart(h impl.MemHeap, place, part int) bool {
	return place != -1 && part >= 0 && part < len(h.Objs[place].Refs)
}

// stepOf is what the document asks of MemStep of an ok heap.
func stepOf(h impl.MemHeap, e impl.MemEvent) (impl.MemHeap, string) {
	x := copyOf(h)
	to, from := knownAt(h, e.To), knownAt(h, e.From)
	isPlace := e.To >= 0 && e.To < len(h.Roots)
	switch {
	case e.Kind == impl.MemCollects:
		x, _ = collectOf(h)
		return x, "ok"
	case !isPlace:
		return x, "no"
	case e.Kind == impl.MemMakes:
		return makesOf(h, e)
	case e.Kind == impl.MemTakes && hasPart(h, from, e.At):
		x.Roots[e.To] = h.Objs[from].Refs[e.At]
		return x, seenText(x, x.Roots[e.To])
	case e.Kind == impl.MemSets && hasPart(h, to, e.At):
		x.Objs[to].Refs[e.At] = from
		return x, "ok"
	case e.Kind == impl.MemForgets:
		x.Roots[e.To] = -1
		return x, "ok"
	case e.Kind == impl.MemWatches && isGuard(h, to) && from != -1:
		if len(h.Watch)+len(h.Ready) == impl.MemMaxWatch {
			return x, "full"
		}
		x.Watch = append(x.Watch, impl.MemWatch{Guard: to, Obj: from})
		return x, "ok"
	case e.Kind == impl.MemAsks && isGuard(h, from):
		x.Roots[e.To] = -1
		if i := slices.IndexFunc(h.Ready, func(w impl.MemWatch) bool { return w.Guard == from }); i >= 0 {
			x.Roots[e.To] = h.Ready[i].Obj
			x.Ready = slices.Delete(x.Ready, i, i+1)
		}
		return x, seenText(x, x.Roots[e.To])
	}
	return x, "no"
}

// makesOf is stepOf of making, at a place of Roots.
func makesOf(h impl.MemHeap, e impl.MemEvent) (impl.MemHeap, string) {
	o := impl.MemObj{Kind: e.Obj.Kind, Text: e.Obj.Text}
	for _, root := range e.Obj.Refs {
		o.Refs = append(o.Refs, knownAt(h, root))
	}
	// In a heap of 60 the new object stands in for the last one, as a heap of 61 would not be ok for another reason.
	with := slices.Concat(h.Objs[:min(len(h.Objs), impl.MemMaxObjs-1)], objs(o))
	if !impl.MemOk(impl.MemHeap{Objs: with}) {
		return copyOf(h), "no"
	}
	if len(h.Objs) == impl.MemMaxObjs {
		return copyOf(h), "full"
	}
	return known(h, e.To, o), seenText(impl.MemHeap{Objs: objs(o)}, 0)
}

func TestStepOfMany(t *testing.T) {
	d := &dice{state: 3}
	seenOf := map[int]map[string]int{}
	for _, h := range toldHeaps() {
		for range 20 {
			e := d.event(h)
			want, seen := stepOf(h, e)
			wantStep(t, "of many", h, e, want, seen)
			if t.Failed() {
				return
			}
			if seenOf[e.Kind] == nil {
				seenOf[e.Kind] = map[string]int{}
			}
			seenOf[e.Kind][seen]++
		}
	}
	asked := map[int][]string{
		impl.MemMakes:   {"no", "full", "z9", "cell of 0", "cell of 6", "weak", "guardian"},
		impl.MemTakes:   {"no", "none", "a", "cell of 2", "weak", "guardian"},
		impl.MemSets:    {"no", "ok"},
		impl.MemForgets: {"no", "ok"},
		impl.MemWatches: {"no", "full", "ok"},
		impl.MemAsks:    {"no", "none", "b", "cell of 1", "weak", "guardian"},
	}
	for kind, all := range asked {
		for _, seen := range all {
			if seenOf[kind][seen] == 0 {
				t.Errorf("events of kind %d are never seen as %q: %v", kind, seen, seenOf[kind])
			}
		}
	}
}
