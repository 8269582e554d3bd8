package tests

import (
	"slices"
	"testing"

	"loop.example/sismem/impl"
)

func wantPlay(t *testing.T, name string, h impl.MemHeap, events []impl.MemEvent, want impl.MemHeap, wantSeen ...string) {
	t.Helper()
	x, seen := impl.MemPlay(h, events)
	if !equalHeaps(x, want) || !slices.Equal(seen, wantSeen) {
		t.Errorf("%s: MemPlay of\n%+v by %+v is\n%+v %q, asked is\n%+v %q", name, h, events, x, seen, want, wantSeen)
	}
}

func TestPlay(t *testing.T) {
	wantPlay(t, "no events", knowing(), nil, knowing())
	wantPlay(t, "no events to nothing", impl.MemHeap{}, nil, impl.MemHeap{})
	wantPlay(t, "an empty list of events", knowing(), []impl.MemEvent{}, knowing())
	wantPlay(t, "one event", knowing(), []impl.MemEvent{forgets(atData)}, rooted(knowing(), atData, -1), "ok")
	wantPlay(t, "one that is refused", knowing(), []impl.MemEvent{forgets(99)}, knowing(), "no")
	wantPlay(t, "some that are refused among others",
		impl.MemHeap{Roots: roots(-1, -1)},
		[]impl.MemEvent{forgets(2), makes(0, data("a")), {}, makes(1, cell(0, 1)), takes(0, 1, 2), takes(0, 1, 1), sets(0, 0, 1), sets(1, 1, 1), collects(), takes(0, 1, 0)},
		impl.MemHeap{Objs: objs(cell(1, 0), data("a")), Roots: roots(1, 0)},
		"no", "a", "no", "cell of 2", "no", "none", "no", "ok", "ok", "a")
	wantPlay(t, "a guardian, told and asked",
		impl.MemHeap{Roots: roots(-1, -1, -1)},
		[]impl.MemEvent{makes(0, guard()), makes(1, data("b")), watching(0, 1), watching(0, 1), makes(2, weak(1, 0)), forgets(1), collects(), asks(1, 0), forgets(1), asks(1, 0), forgets(1), asks(1, 0), takes(1, 2, 0), forgets(1), collects(), takes(1, 2, 0)},
		impl.MemHeap{Objs: objs(guard(), weak(-1, 0)), Roots: roots(0, -1, 1)},
		"guardian", "b", "ok", "ok", "weak", "ok", "ok", "b", "ok", "b", "ok", "none", "b", "ok", "ok", "none")
}

func TestPlayUntilFull(t *testing.T) {
	var events []impl.MemEvent
	var want []string
	for i := range impl.MemMaxObjs + 2 {
		events = append(events, makes(i%2, cell(0, 1)))
		want = append(want, "cell of 2")
	}
	want[impl.MemMaxObjs], want[impl.MemMaxObjs+1] = "full", "full"
	x, seen := impl.MemPlay(impl.MemHeap{Roots: roots(-1, -1)}, events)
	if !slices.Equal(seen, want) || len(x.Objs) != impl.MemMaxObjs {
		t.Errorf("%d objects, %q", len(x.Objs), seen)
	}
	// Each one has the two ahead of it, so none of them can go.
	wantPlay(t, "full, and all is kept", x, []impl.MemEvent{collects(), makes(0, guard()), makes(0, data("A"))}, collected(x), "ok", "full", "no")
}

// collected is what the document asks of MemCollect, the heap alone.
func collected(h impl.MemHeap) impl.MemHeap {
	x, _ := collectOf(h)
	return x
}

func TestPlayOfHeapsThatAreNotOk(t *testing.T) {
	for _, bad := range badHeaps() {
		wantPlay(t, bad.name, bad.heap, nil, impl.MemHeap{})
		wantPlay(t, bad.name, bad.heap, []impl.MemEvent{collects()}, impl.MemHeap{})
		wantPlay(t, bad.name, bad.heap, []impl.MemEvent{makes(0, data("a")), forgets(0), {Kind: 8}}, impl.MemHeap{})
	}
}

// events are that many of any kind, so few collections among them that heaps can fill.
func (d *dice) events(many int, h impl.MemHeap) []impl.MemEvent {
	var list []impl.MemEvent
	for range many {
		e := d.event(h)
		if e.Kind == impl.MemCollects && d.below(3) > 0 {
			e.Kind = 1 + d.below(6)
		}
		list = append(list, e)
	}
	return list
}

// wantStays asks for what promise 7 says of one step.
func wantStays(t *testing.T, h impl.MemHeap, e impl.MemEvent, x impl.MemHeap, seen string) {
	t.Helper()
	if !impl.MemOk(x) {
		t.Fatalf("not ok: %+v by %+v is %+v", h, e, x)
	}
	if e.Kind == impl.MemCollects {
		return
	}
	// No data of these heaps and events read like a refusal.
	if (seen == "no" || seen == "full") && !equalHeaps(h, x) {
		t.Fatalf("refused as %q, and changed: %+v by %+v is %+v", seen, h, e, x)
	}
	if len(x.Objs) < len(h.Objs) || len(x.Roots) != len(h.Roots) {
		t.Fatalf("objects or Roots are lost: %+v by %+v is %+v", h, e, x)
	}
	for place, o := range h.Objs {
		if x.Objs[place].Kind != o.Kind || x.Objs[place].Text != o.Text || len(x.Objs[place].Refs) != len(o.Refs) {
			t.Fatalf("object %d is elsewhere: %+v by %+v is %+v", place, h, e, x)
		}
	}
}

func TestPlayIsStepAfterStep(t *testing.T) {
	d := &dice{state: 8}
	empty := impl.MemHeap{Roots: slices.Repeat([]int{-1}, impl.MemMaxRoots)}
	// The heaps of 60 objects are among these.
	starts := append(toldHeaps()[1200:1800], slices.Repeat([]impl.MemHeap{empty}, 60)...)
	seenAll := map[string]int{}
	for _, h := range starts {
		events := d.events(1+d.below(150), h)
		x := copyOf(h)
		var all []string
		for _, e := range events {
			next, seen := impl.MemStep(x, e)
			want, wantSeen := stepOf(x, e)
			if !equalHeaps(next, want) || seen != wantSeen {
				t.Fatalf("MemStep of\n%+v by %+v is\n%+v %q, asked is\n%+v %q", x, e, next, seen, want, wantSeen)
			}
			wantStays(t, x, e, next, seen)
			x, all = next, append(all, seen)
			seenAll[seen]++
		}
		wantPlay(t, "step after step", h, events, x, all...)
		if t.Failed() {
			return
		}
	}
	for _, seen := range []string{"no", "full", "ok", "none", "weak", "guardian", "cell of 6", "a"} {
		if seenAll[seen] == 0 {
			t.Errorf("never seen: %q", seen)
		}
	}
}

func TestPlayOfTheFirstAndThenOfTheOthers(t *testing.T) {
	d := &dice{state: 21}
	for i, h := range toldHeaps() {
		if i%10 != 0 {
			continue
		}
		events := d.events(12, h)
		whole, all := impl.MemPlay(h, events)
		for cut := range len(events) + 1 {
			x, first := impl.MemPlay(h, events[:cut])
			x, others := impl.MemPlay(x, events[cut:])
			if !equalHeaps(x, whole) || !slices.Equal(slices.Concat(first, others), all) {
				t.Fatalf("cut at %d of %+v by %+v:\n%+v %q %q, whole\n%+v %q", cut, h, events, x, first, others, whole, all)
			}
		}
	}
}

// plainEvents make no weak pairs and no guardians, and no more objects than a heap may have; there are no collections among them.
func (d *dice) plainEvents(many int, h impl.MemHeap) []impl.MemEvent {
	var list []impl.MemEvent
	made := 0
	for len(list) < many {
		e := d.event(h)
		if e.Kind == impl.MemMakes {
			made++
		}
		isPlain := e.Obj.Kind == impl.MemData || e.Obj.Kind == impl.MemCell
		if e.Kind != impl.MemCollects && (e.Kind != impl.MemMakes || isPlain && made <= impl.MemMaxObjs) {
			list = append(list, e)
		}
	}
	return list
}

// withCollections puts a collection ahead of each event at which it is due, and one at the end.
func withCollections(events []impl.MemEvent, due func(at int) bool) []impl.MemEvent {
	var list []impl.MemEvent
	for at, e := range events {
		if due(at) {
			list = append(list, collects())
		}
		list = append(list, e)
	}
	if due(len(events)) {
		list = append(list, collects())
	}
	return list
}

// withoutCollections is what is seen of all events but collections.
func withoutCollections(events []impl.MemEvent, seen []string) []string {
	var list []string
	for at, e := range events {
		if e.Kind != impl.MemCollects {
			list = append(list, seen[at])
		}
	}
	return list
}

// wantMoments asks that what is seen of events, and the end, does not hang on these collections.
func wantMoments(t *testing.T, start impl.MemHeap, events []impl.MemEvent, due func(at int) bool) {
	t.Helper()
	plainEnd, plain := impl.MemPlay(start, events)
	between := withCollections(events, due)
	end, seen := impl.MemPlay(start, between)
	if !slices.Equal(withoutCollections(between, seen), plain) {
		t.Fatalf("of %+v is seen\n%q, of %+v\n%q", events, plain, between, seen)
	}
	if !impl.MemSame(end, plainEnd) || !impl.MemSame(plainEnd, end) {
		t.Fatalf("the ends of %+v are not the same:\n%+v\n%+v", between, plainEnd, end)
	}
}

func TestMoments(t *testing.T) {
	d := &dice{state: 5}
	gone := 0
	for i := range 300 {
		start := impl.MemHeap{Roots: slices.Repeat([]int{-1}, i%(impl.MemMaxRoots+1))}
		events := d.plainEvents(10+d.below(150), start)
		wantMoments(t, start, events, func(at int) bool { return true })
		wantMoments(t, start, events, func(at int) bool { return at == len(events) })
		for range 6 {
			one := d.below(len(events) + 1)
			wantMoments(t, start, events, func(at int) bool { return at == one })
			often := 2 + d.below(9)
			wantMoments(t, start, events, func(at int) bool { return d.below(often) == 0 })
		}
		x, _ := impl.MemPlay(start, events)
		gone += len(x.Objs) - len(impl.MemReach(x))
	}
	if gone == 0 {
		t.Error("nothing was there to be collected")
	}
}

func TestMomentsAtEachPlace(t *testing.T) {
	d := &dice{state: 77}
	start := impl.MemHeap{Roots: roots(-1, -1, -1)}
	for range 20 {
		events := d.plainEvents(60, start)
		for one := range len(events) + 1 {
			wantMoments(t, start, events, func(at int) bool { return at == one })
			wantMoments(t, start, events, func(at int) bool { return at >= one })
		}
	}
}
