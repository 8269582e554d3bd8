package tests

import (
	"math"
	"slices"
	"strings"
	"testing"

	"loop.example/sismem/impl"
)

func wantOk(t *testing.T, name string, h impl.MemHeap, want bool) {
	t.Helper()
	if got := impl.MemOk(h); got != want {
		t.Errorf("%s: MemOk is %v, asked is %v: %+v", name, got, want, h)
	}
}

func TestLimitsAndKinds(t *testing.T) {
	got := []int{impl.MemMaxObjs, impl.MemMaxRefs, impl.MemMaxText, impl.MemMaxRoots, impl.MemMaxWatch, impl.MemMaxSession, impl.MemMaxLines, impl.MemData, impl.MemCell, impl.MemWeak, impl.MemGuard}
	if want := []int{60, 6, 12, 8, 20, 6000, 200, 1, 2, 3, 4}; !slices.Equal(got, want) {
		t.Errorf("constants are %v, asked are %v", got, want)
	}
}

func TestOkOfNothing(t *testing.T) {
	wantOk(t, "nothing", impl.MemHeap{}, true)
	wantOk(t, "empty lists", impl.MemHeap{Objs: []impl.MemObj{}, Roots: []int{}, Watch: []impl.MemWatch{}, Ready: []impl.MemWatch{}}, true)
	wantOk(t, "Roots with nothing", impl.MemHeap{Roots: roots(-1, -1)}, true)
}

func TestOkByKind(t *testing.T) {
	cases := []struct {
		name string
		obj  impl.MemObj
		want bool
	}{
		{"data", data("apple1"), true},
		{"data, parts an empty list", impl.MemObj{Kind: impl.MemData, Text: "a", Refs: []int{}}, true},
		{"data without text", data(""), false},
		{"data with a part", impl.MemObj{Kind: impl.MemData, Text: "a", Refs: []int{0}}, false},
		{"data with a part of nothing", impl.MemObj{Kind: impl.MemData, Text: "a", Refs: []int{-1}}, false},
		{"data with a part alone", impl.MemObj{Kind: impl.MemData, Refs: []int{0}}, false},
		{"a cell without parts", cell(), true},
		{"a cell, parts an empty list", cell([]int{}...), true},
		{"a cell of 1", cell(0), true},
		{"a cell of 2 that are itself and nothing", cell(1, -1), true},
		{"a cell of 6", cell(0, 1, -1, 0, 1, -1), true},
		{"a cell of 7", cell(0, 1, -1, 0, 1, -1, 0), false},
		{"a cell of 7 of nothing", cell(-1, -1, -1, -1, -1, -1, -1), false},
		{"a cell with a text", impl.MemObj{Kind: impl.MemCell, Text: "a", Refs: []int{0}}, false},
		{"a cell with a text alone", impl.MemObj{Kind: impl.MemCell, Text: "a"}, false},
		{"a weak pair", weak(0, 1), true},
		{"a weak pair of nothing", weak(-1, -1), true},
		{"a weak pair of 0", impl.MemObj{Kind: impl.MemWeak}, false},
		{"a weak pair of 1", impl.MemObj{Kind: impl.MemWeak, Refs: []int{0}}, false},
		{"a weak pair of 3", impl.MemObj{Kind: impl.MemWeak, Refs: []int{0, 0, 0}}, false},
		{"a weak pair with a text", impl.MemObj{Kind: impl.MemWeak, Text: "a", Refs: []int{0, 0}}, false},
		{"a guardian", guard(), true},
		{"a guardian, parts an empty list", impl.MemObj{Kind: impl.MemGuard, Refs: []int{}}, true},
		{"a guardian with a text", impl.MemObj{Kind: impl.MemGuard, Text: "a"}, false},
		{"a guardian with a part", impl.MemObj{Kind: impl.MemGuard, Refs: []int{0}}, false},
		{"a guardian with a part of nothing", impl.MemObj{Kind: impl.MemGuard, Refs: []int{-1}}, false},
		{"a guardian with two parts", impl.MemObj{Kind: impl.MemGuard, Refs: []int{0, 0}}, false},
	}
	for _, c := range cases {
		wantOk(t, c.name, impl.MemHeap{Objs: objs(data("a"), c.obj)}, c.want)
		wantOk(t, c.name+", known", impl.MemHeap{Objs: objs(data("a"), c.obj), Roots: roots(1)}, c.want)
		wantOk(t, c.name+", ahead of another", impl.MemHeap{Objs: objs(c.obj, data("a"))}, c.want)
	}
}

func TestOkOfOtherKinds(t *testing.T) {
	for _, kind := range []int{0, -1, 5, 6, 257, 258, 259, 260, math.MinInt, math.MaxInt} {
		for _, o := range objs(impl.MemObj{}, data("a"), cell(0), weak(0, 0)) {
			o.Kind = kind
			wantOk(t, "another kind", impl.MemHeap{Objs: objs(data("a"), o)}, false)
		}
	}
}

func TestOkByBytesOfText(t *testing.T) {
	for b := range 256 {
		one := string([]byte{byte(b)})
		want := strings.Contains("abcdefghijklmnopqrstuvwxyz0123456789", one)
		for _, text := range []string{one, one + "a", "a" + one, "a" + one + "9", "abcdefghijk" + one} {
			wantOk(t, "data of "+text, impl.MemHeap{Objs: objs(data(text))}, want)
		}
	}
	// Runes whose last byte, or whose look, is that of a letter or a figure.
	for _, r := range []rune{0x161, 0x130, 0x10061, 0x660, 0x966, 0xff41, 0xff10, 0xe9, 0xdf, 0xfffd, 0x10ffff} {
		wantOk(t, "a rune", impl.MemHeap{Objs: objs(data(string(r)))}, false)
		wantOk(t, "a rune among letters", impl.MemHeap{Objs: objs(data("a" + string(r) + "b"))}, false)
	}
}

func TestOkBySizeOfText(t *testing.T) {
	for size := range 40 {
		want := 1 <= size && size <= impl.MemMaxText
		wantOk(t, "a text", impl.MemHeap{Objs: objs(data(strings.Repeat("a", size)))}, want)
		wantOk(t, "figures", impl.MemHeap{Objs: objs(data(strings.Repeat("0", size)))}, want)
	}
	for _, size := range []int{256 + 5, 65536 + 5, 1 << 20} {
		wantOk(t, "a long text", impl.MemHeap{Objs: objs(data(strings.Repeat("a", size)))}, false)
	}
}

func TestOkByNumberOfParts(t *testing.T) {
	for many := range 300 {
		refs := slices.Repeat([]int{0}, many)
		wantOk(t, "a cell", impl.MemHeap{Objs: objs(impl.MemObj{Kind: impl.MemCell, Refs: refs})}, many <= impl.MemMaxRefs)
		wantOk(t, "a weak pair", impl.MemHeap{Objs: objs(impl.MemObj{Kind: impl.MemWeak, Refs: refs})}, many == 2)
	}
}

func TestOkByNumberOfObjects(t *testing.T) {
	for _, many := range []int{1, 59, 60, 61, 62, 64, 65, 128, 256 + 3, 1000} {
		want := many <= impl.MemMaxObjs
		for _, o := range objs(data("a"), cell(), cell(0), weak(0, 0), guard()) {
			wantOk(t, "many objects", impl.MemHeap{Objs: slices.Repeat(objs(o), many)}, want)
		}
		wantOk(t, "many, the last known", impl.MemHeap{Objs: slices.Repeat(objs(data("a")), many), Roots: roots(many - 1)}, want)
	}
}

func TestOkByNumberOfRoots(t *testing.T) {
	for _, many := range []int{0, 1, 7, 8, 9, 10, 16, 256 + 3} {
		want := many <= impl.MemMaxRoots
		wantOk(t, "Roots", impl.MemHeap{Objs: objs(data("a")), Roots: slices.Repeat(roots(0), many)}, want)
		wantOk(t, "Roots with nothing", impl.MemHeap{Objs: objs(data("a")), Roots: slices.Repeat(roots(-1), many)}, want)
	}
}

func TestOkByNumberOfWatches(t *testing.T) {
	for watch := range 24 {
		for ready := range 24 {
			h := impl.MemHeap{Objs: objs(guard(), data("a"))}
			h.Watch = slices.Repeat(watches(0, 1), watch)
			h.Ready = slices.Repeat(watches(0, 1), ready)
			wantOk(t, "Watch and Ready", h, watch+ready <= impl.MemMaxWatch)
		}
	}
}

func TestOkByPlacesOfRefs(t *testing.T) {
	const size = 3
	good := []int{-1, 0, 1, 2}
	for many := 1; many <= impl.MemMaxRefs; many++ {
		for at := range many {
			for _, p := range slices.Concat(good, noPlaces(size)) {
				refs := slices.Repeat([]int{0}, many)
				refs[at] = p
				want := slices.Contains(good, p)
				wantOk(t, "a part of a cell", impl.MemHeap{Objs: objs(data("a"), cell(refs...), data("b"))}, want)
				if many == 2 {
					wantOk(t, "a part of a weak pair", impl.MemHeap{Objs: objs(data("a"), data("b"), weak(refs[0], refs[1]))}, want)
				}
			}
		}
	}
}

func TestOkByPlacesOfRoots(t *testing.T) {
	const size = 3
	good := []int{-1, 0, 1, 2}
	for at := range impl.MemMaxRoots {
		for _, p := range slices.Concat(good, noPlaces(size)) {
			h := impl.MemHeap{Objs: objs(data("a"), cell(), guard()), Roots: slices.Repeat(roots(0), impl.MemMaxRoots)}
			h.Roots[at] = p
			wantOk(t, "a Root", h, slices.Contains(good, p))
		}
	}
	wantOk(t, "a Root of a heap without objects", impl.MemHeap{Roots: roots(0)}, false)
}

func TestOkByPlacesOfWatches(t *testing.T) {
	list := objs(data("a"), cell(0), weak(0, 0), guard(), guard())
	size := len(list)
	for place := -3; place < size+3; place++ {
		isPlace := 0 <= place && place < size
		isGuard := isPlace && list[place].Kind == impl.MemGuard
		for many := 1; many <= 3; many++ {
			for at := range many {
				asGuard := slices.Repeat(watches(3, 0), many)
				asGuard[at].Guard = place
				wantOk(t, "a Guard of Watch", impl.MemHeap{Objs: list, Watch: asGuard}, isGuard)
				wantOk(t, "a Guard of Ready", impl.MemHeap{Objs: list, Ready: asGuard}, isGuard)
				asObj := slices.Repeat(watches(3, 0), many)
				asObj[at].Obj = place
				wantOk(t, "an Obj of Watch", impl.MemHeap{Objs: list, Watch: asObj}, isPlace)
				wantOk(t, "an Obj of Ready", impl.MemHeap{Objs: list, Ready: asObj}, isPlace)
			}
		}
	}
	for _, p := range noPlaces(size) {
		wantOk(t, "a Guard that is no place", impl.MemHeap{Objs: list, Watch: watches(p, 0)}, false)
		wantOk(t, "a Guard that is no place, told", impl.MemHeap{Objs: list, Ready: watches(p, 0)}, false)
		wantOk(t, "an Obj that is no place", impl.MemHeap{Objs: list, Watch: watches(3, p)}, false)
		wantOk(t, "an Obj that is no place, told", impl.MemHeap{Objs: list, Ready: watches(3, p)}, false)
	}
	wantOk(t, "no objects", impl.MemHeap{Watch: watches(0, 0)}, false)
	wantOk(t, "no objects, told", impl.MemHeap{Ready: watches(0, 0)}, false)
	wantOk(t, "a guardian of itself", impl.MemHeap{Objs: objs(guard()), Watch: watches(0, 0), Ready: watches(0, 0)}, true)
}
