package tests

import (
	"fmt"
	"math"
	"math/rand"
	"slices"
	"testing"

	"loop.example/g01061/impl"
)

// outlineNumbers are limits of chapter 5 that are just reached and just passed, and the ends of int64.
var outlineNumbers = []int64{math.MinInt64, math.MinInt64 + 1, -100001, -100000, -99994, -1, 0, 1, 6, 10000, 10001, 99994, 100000, 100001, math.MaxInt64 - 1, math.MaxInt64}

// oddArcs are arcs with each coordinate at its limits, beyond them and far beyond them.
func oddArcs() []impl.Arc {
	arcs := []impl.Arc{{}, arc(0, -4, 6, 4, -6, 4), arc(0, 0, 5, 0, 5, 0), arc(0, 0, 5, 0, 4, 0), arc(-100000, -100000, 100000, 99999, 99999, 100000)}
	for _, n := range outlineNumbers {
		for k := range 6 {
			a := arc(0, -4, 6, 4, -6, 4)
			*coordinatesOf(&a)[k] = n
			arcs = append(arcs, a)
		}
		arcs = append(arcs, arc(n, n, n, n, n, n), arc(0, 0, n, 0, -n, 0), arc(n, 0, 0, n, n, n), arc(-n, n, n, n, n, -n))
	}
	return arcs
}

func arcCalls() []namedCall {
	var calls []namedCall
	for _, a := range oddArcs() {
		add := func(name string, call func() []any) {
			calls = append(calls, namedCall{fmt.Sprintf("%s of %s", name, shown(a)), call})
		}
		add("ValidArc", func() []any { return []any{impl.ValidArc(a)} })
		add("RadiusSquared", func() []any { radius, code := impl.RadiusSquared(a); return []any{radius, code} })
		for _, b := range oddArcs() {
			add("IsSmoothJoint", func() []any { return []any{impl.IsSmoothJoint(a, b), impl.IsSmoothJoint(b, a)} })
		}
	}
	return calls
}

func ovalCalls() []namedCall {
	var calls []namedCall
	for _, k := range outlineNumbers {
		for _, m := range outlineNumbers {
			calls = append(calls, namedCall{fmt.Sprintf("OvalOutline(%d, %d)", k, m), func() []any { oval, code := impl.OvalOutline(k, m); return []any{oval, code} }})
		}
	}
	return calls
}

// outlineLists are lists of arcs that are valid, too long, open or with wrong arcs.
func outlineLists() [][]impl.Arc {
	random := rand.New(rand.NewSource(41))
	lists := [][]impl.Arc{nil, {}, {{}}, {{}, {}}, oddArcs(), oddArcs()[:16], slices.Repeat([]impl.Arc{arc(0, 0, 5, 0, -5, 0), arc(0, 0, -5, 0, 5, 0)}, 100000)}
	for many := 2; many < 19; many++ {
		list := randomOutline(random, many)
		lists = append(lists, list, list[1:], slices.Concat(list, list))
	}
	for _, a := range oddArcs() {
		back := impl.Arc{Center: a.Center, From: a.To, To: a.From}
		lists = append(lists, []impl.Arc{a}, []impl.Arc{a, back}, []impl.Arc{a, a}, []impl.Arc{arc(0, -4, 6, 4, -6, 4), a})
	}
	return lists
}

func outlineCalls() []namedCall {
	var calls []namedCall
	for k, list := range outlineLists() {
		add := func(name string, call func() []any) {
			calls = append(calls, namedCall{fmt.Sprintf("%s of list %d", name, k), call})
		}
		add("ValidOutline", func() []any { return []any{impl.ValidOutline(list), impl.IsSmooth(list)} })
		add("CornersOf", func() []any { corners, code := impl.CornersOf(list); return []any{corners, code} })
		add("MirrorOutline", func() []any { mirrored, code := impl.MirrorOutline(list); return []any{mirrored, code} })
		add("TwiceArea", func() []any { area, code := impl.TwiceArea(list); return []any{area, code} })
		add("BoxOf", func() []any { box, code := impl.BoxOf(list); return []any{box, code} })
		add("SharpestOf", func() []any { sharpest, code := impl.SharpestOf(list); return []any{sharpest, code} })
		for _, x := range outlineNumbers {
			for _, y := range []int64{math.MinInt64, -100000, 0, 7, 100001, x} {
				add(fmt.Sprintf("MoveOutline by %d, %d", x, y), func() []any { moved, code := impl.MoveOutline(list, x, y); return []any{moved, code} })
			}
		}
	}
	return calls
}

func TestPromise1OutlinesReturnEqualResults(t *testing.T) {
	checkEqualResults(t, slices.Concat(arcCalls(), ovalCalls(), outlineCalls()))
}

func TestPromise1NilAndEmptyOutlines(t *testing.T) {
	for _, list := range [][]impl.Arc{nil, {}, make([]impl.Arc, 0, 16)} {
		checkInvalidOutline(t, list)
	}
}

// callWithOutline calls all functions with a list of arcs, with results of all kinds.
func callWithOutline(list []impl.Arc) {
	impl.ValidOutline(list)
	impl.IsSmooth(list)
	impl.CornersOf(list)
	impl.MirrorOutline(list)
	impl.TwiceArea(list)
	impl.BoxOf(list)
	impl.SharpestOf(list)
	for _, x := range []int64{0, 3, 100000, 100001} {
		impl.MoveOutline(list, x, -7)
	}
}

func TestPromise1OutlinesModifyNoArgument(t *testing.T) {
	random := rand.New(rand.NewSource(42))
	for many := 2; many <= 18; many++ {
		memory := slices.Concat(randomOutline(random, many), oddArcs())
		before := slices.Clone(memory)
		for _, length := range []int{0, 1, many - 1, many, many + 1} {
			callWithOutline(memory[:length])
			same(t, fmt.Sprintf("memory of %d of %d arcs", length, many), memory, before)
		}
	}
}

func TestPromise1OutlinesAreNewMemory(t *testing.T) {
	list := chainOf(6)
	before := slices.Clone(list)
	for name, call := range map[string]func() []impl.Arc{
		"OvalOutline":           func() []impl.Arc { oval, _ := impl.OvalOutline(1, 1); return oval },
		"MoveOutline":           func() []impl.Arc { moved, _ := impl.MoveOutline(list, 3, 4); return moved },
		"MoveOutline by 0":      func() []impl.Arc { moved, _ := impl.MoveOutline(list, 0, 0); return moved },
		"MirrorOutline":         func() []impl.Arc { mirrored, _ := impl.MirrorOutline(list); return mirrored },
		"MirrorOutline of half": func() []impl.Arc { mirrored, _ := impl.MirrorOutline(list[:2]); return mirrored },
	} {
		first, second := call(), call()
		want := slices.Clone(second)
		spoil(first, arc(9, 9, 9, 9, 9, 9))
		same(t, name+" of another call", second, want)
		same(t, name+" of a later call", call(), want)
		same(t, "argument of "+name, list, before)
	}
}

func TestPromise1CornersAndBoxesAreNewMemory(t *testing.T) {
	list := chainOf(6)
	for name, call := range map[string]func() []int64{
		"CornersOf": func() []int64 { corners, _ := impl.CornersOf(list); return corners },
		"BoxOf":     func() []int64 { box, _ := impl.BoxOf(list); return box },
	} {
		first, second := call(), call()
		want := slices.Clone(second)
		spoil(first, -7)
		same(t, name+" of another call", second, want)
		same(t, name+" of a later call", call(), want)
	}
}
