package tests

import (
	"fmt"
	"slices"
	"strings"
	"sync"
	"testing"

	"loop.example/sismem/impl"
)

// handedIn are heaps that are ok and heaps that are not, with marked room behind the end of each list.
func handedIn() []impl.MemHeap {
	list := []impl.MemHeap{roomy(sample())}
	for _, h := range okHeaps()[:400] {
		list = append(list, roomy(h))
	}
	for _, bad := range badHeaps() {
		list = append(list, roomy(bad.heap))
	}
	return list
}

func TestNothingHandedInIsChanged(t *testing.T) {
	other := roomy(sample())
	otherText := wholeText(other)
	for _, h := range handedIn() {
		text := wholeText(h)
		impl.MemOk(h)
		impl.MemReach(h)
		impl.MemSame(h, other)
		impl.MemSame(other, h)
		impl.MemSame(h, h)
		impl.MemCollect(h)
		if wholeText(h) != text || wholeText(other) != otherText {
			t.Fatalf("changed:\n%s\nwas\n%s", wholeText(h), text)
		}
	}
}

// happened is a heap, and events that are played from it on, all with marked room behind the end of each list.
type happened struct {
	heap   impl.MemHeap
	events []impl.MemEvent
}

// happenings are of each kind, refused ones among them.
func happenings() []happened {
	d := &dice{state: 91}
	var list []happened
	for _, h := range append(handedIn(), roomy(knowing()), roomy(filled(impl.MemMaxObjs)), roomy(watchful(impl.MemMaxWatch, 10))) {
		events := append(d.events(12, h), eachKind()...)
		for i := range events {
			events[i].Obj.Refs = withRoom(events[i].Obj.Refs, 7777)
		}
		list = append(list, happened{heap: h, events: withRoom(events, impl.MemEvent{Kind: 7777})})
	}
	return list
}

// text tells all that is handed in, what stands behind the ends of its lists too.
func (p happened) text() string {
	var b strings.Builder
	fmt.Fprintln(&b, wholeText(p.heap), len(p.events))
	for _, e := range p.events[:cap(p.events)] {
		fmt.Fprintf(&b, "%d %d %d %d %d %q %d %v\n", e.Kind, e.To, e.From, e.At, e.Obj.Kind, e.Obj.Text, len(e.Obj.Refs), e.Obj.Refs[:cap(e.Obj.Refs)])
	}
	return b.String()
}

func TestNothingHandedInIsChangedByWhatHappens(t *testing.T) {
	for _, p := range happenings() {
		text := p.text()
		for _, e := range p.events {
			impl.MemStep(p.heap, e)
		}
		impl.MemPlay(p.heap, p.events)
		if p.text() != text {
			t.Fatalf("changed:\n%s\nwas\n%s", p.text(), text)
		}
	}
}

func TestStepIsNewMemory(t *testing.T) {
	refused := map[string]int{}
	for _, p := range happenings() {
		text := p.text()
		for _, e := range p.events {
			first, _ := impl.MemStep(p.heap, e)
			second, seen := impl.MemStep(p.heap, e)
			want := copyOf(second)
			if !overwrite(first, nil) {
				t.Fatalf("two lists of one answer share memory: of\n%s", text)
			}
			if p.text() != text {
				t.Fatalf("the answer shares memory with what was handed in:\n%s\nwas\n%s", p.text(), text)
			}
			if !equalHeaps(second, want) {
				t.Fatalf("two answers share memory: %+v was %+v", second, want)
			}
			wantStep(t, "asked again", p.heap, e, want, seen)
			refused[seen]++
		}
	}
	if refused["no"] == 0 || refused["full"] == 0 || refused["ok"] == 0 {
		t.Errorf("not of each: %v", refused)
	}
}

func TestPlayIsNewMemory(t *testing.T) {
	for _, p := range happenings() {
		text := p.text()
		for many := range len(p.events) + 1 {
			events := p.events[:many]
			first, firstSeen := impl.MemPlay(p.heap, events)
			second, seen := impl.MemPlay(p.heap, events)
			want, wantSeen := copyOf(second), slices.Clone(seen)
			for i := range firstSeen[:cap(firstSeen)] {
				firstSeen[:cap(firstSeen)][i] = "over"
			}
			if !overwrite(first, nil) {
				t.Fatalf("two lists of one answer share memory: of\n%s", text)
			}
			if p.text() != text {
				t.Fatalf("the answer shares memory with what was handed in:\n%s\nwas\n%s", p.text(), text)
			}
			if !equalHeaps(second, want) || !slices.Equal(seen, wantSeen) {
				t.Fatalf("two answers share memory: %+v %q was %+v %q", second, seen, want, wantSeen)
			}
			wantPlay(t, "asked again", p.heap, events, want, wantSeen...)
		}
	}
}

func TestWhatWasHandedInIsNotKept(t *testing.T) {
	for _, p := range happenings() {
		x, seen := impl.MemPlay(p.heap, p.events)
		want, wantSeen := copyOf(x), slices.Clone(seen)
		for _, e := range p.events {
			overwrite(impl.MemHeap{Roots: e.Obj.Refs}, nil)
		}
		overwrite(p.heap, nil)
		clear(p.events)
		if !equalHeaps(x, want) || !slices.Equal(seen, wantSeen) {
			t.Fatalf("what was handed in is kept: %+v %q was %+v %q", x, seen, want, wantSeen)
		}
	}
}

func TestReachIsNewMemory(t *testing.T) {
	for _, h := range handedIn() {
		text := wholeText(h)
		first, second := impl.MemReach(h), impl.MemReach(h)
		want := slices.Clone(second)
		wide := first[:cap(first)]
		for i := range wide {
			wide[i] = 5555
		}
		if wholeText(h) != text {
			t.Fatalf("the answer shares memory with the heap:\n%s\nwas\n%s", wholeText(h), text)
		}
		if !slices.Equal(second, want) || !slices.Equal(impl.MemReach(h), want) {
			t.Fatalf("two answers share memory: %v was %v", second, want)
		}
	}
}

// overwrite fills all lists of a heap, and those moves that MemCollect gives beside it, spare room too, each with a number of its own, and says whether these stand there then.
func overwrite(x impl.MemHeap, moves []int) bool {
	numbers := [][]int{moves[:cap(moves)], x.Roots[:cap(x.Roots)]}
	for _, o := range x.Objs[:cap(x.Objs)] {
		numbers = append(numbers, o.Refs[:cap(o.Refs)])
	}
	pairs := [][]impl.MemWatch{x.Watch[:cap(x.Watch)], x.Ready[:cap(x.Ready)]}
	mark := func(i int) int { return 5000 + i }
	pair := func(i int) impl.MemWatch { return impl.MemWatch{Guard: mark(i), Obj: mark(i)} }
	for i, list := range numbers {
		for at := range list {
			list[at] = mark(i)
		}
	}
	for i, list := range pairs {
		for at := range list {
			list[at] = pair(i)
		}
	}
	stands := true
	for i, list := range numbers {
		stands = stands && !slices.ContainsFunc(list, func(n int) bool { return n != mark(i) })
	}
	for i, list := range pairs {
		stands = stands && !slices.ContainsFunc(list, func(w impl.MemWatch) bool { return w != pair(i) })
	}
	for at := range x.Objs[:cap(x.Objs)] {
		x.Objs[:cap(x.Objs)][at] = impl.MemObj{Kind: 5555, Text: "over"}
	}
	return stands
}

func TestCollectIsNewMemory(t *testing.T) {
	list := handedIn()
	for _, h := range toldHeaps() {
		list = append(list, roomy(h))
	}
	for _, h := range list {
		text := wholeText(h)
		first, firstMoves := impl.MemCollect(h)
		second, moves := impl.MemCollect(h)
		want, wantMoves := copyOf(second), slices.Clone(moves)
		if !overwrite(first, firstMoves) {
			t.Fatalf("two lists of one answer share memory: of\n%s", text)
		}
		if wholeText(h) != text {
			t.Fatalf("the answer shares memory with the heap:\n%s\nwas\n%s", wholeText(h), text)
		}
		if !equalHeaps(second, want) || !slices.Equal(moves, wantMoves) {
			t.Fatalf("two answers share memory: %+v %v was %+v %v", second, moves, want, wantMoves)
		}
		wantCollect(t, "asked again", h, want, wantMoves...)
	}
}

func TestNothingIsKeptBetweenCalls(t *testing.T) {
	list := handedIn()
	var oks []bool
	var reaches, moves [][]int
	var collected []impl.MemHeap
	for _, h := range list {
		oks = append(oks, impl.MemOk(h))
		reaches = append(reaches, impl.MemReach(h))
		x, to := impl.MemCollect(h)
		collected, moves = append(collected, x), append(moves, to)
	}
	for i, h := range slices.Backward(list) {
		if impl.MemOk(h) != oks[i] || !slices.Equal(impl.MemReach(h), reaches[i]) || impl.MemSame(h, h) != oks[i] {
			t.Fatalf("asked again, the answer is another: %+v", h)
		}
		wantCollect(t, "asked again", h, collected[i], moves[i]...)
	}
}

func TestNothingThatHappenedIsKept(t *testing.T) {
	list := happenings()
	var ends []impl.MemHeap
	var all [][]string
	for _, p := range list {
		x, seen := impl.MemPlay(p.heap, p.events)
		ends, all = append(ends, x), append(all, seen)
	}
	for i, p := range slices.Backward(list) {
		wantPlay(t, "asked again", p.heap, p.events, ends[i], all[i]...)
	}
}

func TestStepFromMany(t *testing.T) {
	list := happenings()[:60]
	var callers sync.WaitGroup
	for range 8 {
		callers.Go(func() {
			for _, p := range list {
				if !impl.MemOk(p.heap) {
					continue
				}
				for _, e := range p.events {
					want, seen := stepOf(p.heap, e)
					wantStep(t, "many callers", p.heap, e, want, seen)
				}
			}
		})
	}
	callers.Wait()
}
