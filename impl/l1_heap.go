// Package impl: a heap, and a collector that moves.
package impl

// Limits of heaps.
const (
	MemMaxObjs  = 60
	MemMaxRefs  = 6
	MemMaxText  = 12
	MemMaxRoots = 8
	MemMaxWatch = 20
)

// Kinds of objects.
const (
	MemData  = 1
	MemCell  = 2
	MemWeak  = 3
	MemGuard = 4
)

// MemObj is an object: a text, or places of others, -1 for none.
type MemObj struct {
	Kind int
	Text string
	Refs []int
}

// MemWatch is an object that a guardian watches, or has been told of.
type MemWatch struct {
	Guard int
	Obj   int
}

// MemHeap is objects, those that are known, what guardians watch, and what they have been told of.
type MemHeap struct {
	Objs  []MemObj
	Roots []int
	Watch []MemWatch
	Ready []MemWatch
}

// thing is an object as its kind has it, so that no kind carries what only another one has.
type thing interface {
	// parts are all places that the thing holds, weak ones too.
	parts() []int
}

type dataThing struct{ text string }

type cellThing struct{ refs []int }

type weakThing struct{ first, second int }

type guardThing struct{}

func (d dataThing) parts() []int { return nil }

func (c cellThing) parts() []int { return c.refs }

func (w weakThing) parts() []int { return []int{w.first, w.second} }

func (g guardThing) parts() []int { return nil }

// thingOf is nil where the object is of no kind, or does not have just the fields of its kind.
func thingOf(o MemObj) thing {
	if o.Kind == MemData && len(o.Refs) == 0 {
		return dataThing{text: o.Text}
	}
	if o.Text != "" {
		return nil
	}
	switch {
	case o.Kind == MemCell:
		return cellThing{refs: o.Refs}
	case o.Kind == MemWeak && len(o.Refs) == 2:
		return weakThing{first: o.Refs[0], second: o.Refs[1]}
	case o.Kind == MemGuard && len(o.Refs) == 0:
		return guardThing{}
	}
	return nil
}

// MemOk says whether a heap is ok.
func MemOk(h MemHeap) bool {
	if len(h.Objs) > MemMaxObjs || len(h.Roots) > MemMaxRoots || len(h.Watch)+len(h.Ready) > MemMaxWatch {
		return false
	}
	for _, o := range h.Objs {
		if !thingOk(thingOf(o), len(h.Objs)) {
			return false
		}
	}
	return placesOk(h.Roots, len(h.Objs)) && watchesOk(h.Watch, h.Objs) && watchesOk(h.Ready, h.Objs)
}

// thingOk says whether a thing may stand in a heap of that many objects.
func thingOk(t thing, objs int) bool {
	switch x := t.(type) {
	case dataThing:
		return textOk(x.text)
	case cellThing:
		return len(x.refs) <= MemMaxRefs && placesOk(x.parts(), objs)
	case weakThing, guardThing:
		return placesOk(x.parts(), objs)
	}
	return false
}

// textOk says whether a text may be that of data.
func textOk(text string) bool {
	if len(text) == 0 || len(text) > MemMaxText {
		return false
	}
	for _, r := range text {
		if !letterOk(r) {
			return false
		}
	}
	return true
}

func letterOk(r rune) bool {
	return 'a' <= r && r <= 'z' || '0' <= r && r <= '9'
}

// placesOk says whether each is a place of that many objects, or -1.
func placesOk(places []int, objs int) bool {
	for _, p := range places {
		if p != -1 && !placeOk(p, objs) {
			return false
		}
	}
	return true
}

func placeOk(place int, objs int) bool {
	return 0 <= place && place < objs
}

// watchesOk says whether each has a guardian and an object of these.
func watchesOk(watches []MemWatch, objs []MemObj) bool {
	for _, w := range watches {
		if !placeOk(w.Guard, len(objs)) || !placeOk(w.Obj, len(objs)) || objs[w.Guard].Kind != MemGuard {
			return false
		}
	}
	return true
}
