package tests

import (
	"fmt"
	"math"
	"math/rand"
	"slices"
	"testing"

	"loop.example/g01061/impl"
)

// movedBy returns the arcs with x and y added to all points.
func movedBy(list []impl.Arc, x, y int64) []impl.Arc {
	list = slices.Clone(list)
	for k := range list {
		for j, n := range coordinatesOf(&list[k]) {
			*n += [...]int64{x, y}[j%2]
		}
	}
	return list
}

// mirrorOf returns the mirror image of an outline by the definition.
func mirrorOf(list []impl.Arc) []impl.Arc {
	var mirrored []impl.Arc
	for k := len(list) - 1; k >= 0; k-- {
		a := list[k]
		mirrored = append(mirrored, arc(-a.Center.X, a.Center.Y, -a.To.X, a.To.Y, -a.From.X, a.From.Y))
	}
	return mirrored
}

// checkMove checks a move of a valid outline by its definition.
func checkMove(t *testing.T, list []impl.Arc, x, y int64) {
	t.Helper()
	want, code := movedBy(list, x, y), int64(impl.OK)
	switch {
	case max(x, -x, y, -y) > 100000 || min(x, y) == math.MinInt64:
		want, code = nil, impl.ErrRange
	case !isOutline(want):
		want, code = nil, impl.ErrFull
	}
	moved, gotCode := impl.MoveOutline(list, x, y)
	same(t, fmt.Sprintf("MoveOutline(%v, %d, %d)", list, x, y), []any{fmt.Sprint(moved), gotCode}, []any{fmt.Sprint(want), code})
	if gotCode != impl.OK {
		return
	}
	corners, area, box, sharpest := told(list)
	checkOutline(t, moved, corners, area, []int64{box[0] + x, box[1] + y, box[2] + x, box[3] + y}, sharpest)
	back, gotCode := impl.MoveOutline(moved, -x, -y)
	same(t, fmt.Sprintf("MoveOutline(%v, %d, %d) and back", list, x, y), []any{back, gotCode}, []any{list, int64(impl.OK)})
}

func TestPromise6MovedOutlinesHaveAsManyCorners(t *testing.T) {
	random := rand.New(rand.NewSource(35))
	for range 4000 {
		list := randomOutline(random, 2+random.Intn(15))
		checkMove(t, list, random.Int63n(200001)-100000, random.Int63n(200001)-100000)
		checkMove(t, list, random.Int63n(21)-10, random.Int63n(21)-10)
		checkMove(t, list, random.Int63n(21)-10, random.Int63n(200001)-100000)
	}
}

func TestPromise6MoveTellsItsValue(t *testing.T) {
	oval, _ := impl.OvalOutline(1, 1)
	moved, code := impl.MoveOutline(oval, 10, -20)
	want := []impl.Arc{arc(10, -24, 16, -16, 4, -16), arc(7, -20, 4, -16, 4, -24), arc(10, -16, 4, -24, 16, -24), arc(13, -20, 16, -24, 16, -16)}
	same(t, "MoveOutline of the oval", []any{moved, code}, []any{want, int64(impl.OK)})
	moved, code = impl.MoveOutline(oval, 0, 0)
	same(t, "MoveOutline by nothing", []any{moved, code}, []any{oval, int64(impl.OK)})
}

// codeOfMove returns the code of a move, and reports arcs beside an error.
func codeOfMove(t *testing.T, list []impl.Arc, x, y int64) int64 {
	t.Helper()
	moved, code := impl.MoveOutline(list, x, y)
	same(t, fmt.Sprintf("arcs of MoveOutline(%v, %d, %d) with code %d", list, x, y, code), len(moved) == len(list), code == impl.OK)
	checkMove(t, list, x, y)
	return code
}

func TestPromise6MovesJustInsideAndOutside(t *testing.T) {
	oval, _ := impl.OvalOutline(10000, 10000)
	high, low := []impl.Arc{arc(0, 50000, 1, 0, -1, 0), arc(0, 0, -1, 0, 1, 0)}, []impl.Arc{arc(0, 0, 1, 0, -1, 0), arc(0, -50000, -1, 0, 1, 0)}
	left, right := []impl.Arc{arc(-50000, 0, 0, 1, 0, -1), arc(0, 0, 0, -1, 0, 1)}, []impl.Arc{arc(0, 0, 0, 1, 0, -1), arc(50000, 0, 0, -1, 0, 1)}
	for _, c := range []struct {
		list []impl.Arc
		x, y int64
	}{
		{oval, 40000, 0}, {oval, -40000, 0}, {oval, 0, 60000}, {oval, 0, -60000}, {oval, 40000, 60000}, {oval, -40000, -60000}, {oval, 40000, -60000}, {oval, -40000, 60000},
		{high, 0, 50000}, {high, 99999, 0}, {high, -99999, 0}, {high, 0, -100000}, {low, 0, -50000}, {low, 0, 100000}, {left, -50000, 0}, {left, 0, 99999}, {left, 100000, 0}, {right, 50000, 0}, {right, 0, -99999}, {right, -100000, 0},
	} {
		same(t, fmt.Sprintf("MoveOutline by %d, %d just inside", c.x, c.y), codeOfMove(t, c.list, c.x, c.y), int64(impl.OK))
		for _, step := range [][2]int64{{1, 0}, {-1, 0}, {0, 1}, {0, -1}} {
			codeOfMove(t, c.list, c.x+step[0], c.y+step[1])
		}
	}
	for _, c := range [][2]int64{{40001, 0}, {-40001, 0}, {0, 60001}, {0, -60001}, {40001, 60001}, {100000, 0}, {0, 100000}, {-100000, 0}, {0, -100000}, {100000, -100000}} {
		same(t, fmt.Sprintf("MoveOutline of the oval by %v", c), codeOfMove(t, oval, c[0], c[1]), int64(impl.ErrFull))
	}
	same(t, "centers that are just outside", []int64{codeOfMove(t, high, 0, 50001), codeOfMove(t, low, 0, -50001), codeOfMove(t, left, -50001, 0), codeOfMove(t, right, 50001, 0)}, []int64{5, 5, 5, 5})
}

func TestPromise6MovesByTheLimits(t *testing.T) {
	oval, _ := impl.OvalOutline(1, 1)
	for _, x := range []int64{-1, 1} {
		for _, y := range []int64{-1, 1} {
			// Behind a move by the limit, the outline lies as far on the other side of the middle.
			list := movedBy(oval, x*50000, y*50000)
			same(t, "moves by MaxCoord", []int64{codeOfMove(t, list, -x*100000, -y*100000), codeOfMove(t, list, -x*100000, 0), codeOfMove(t, list, 0, -y*100000)}, []int64{0, 0, 0})
			same(t, "moves by more", []int64{codeOfMove(t, list, -x*100001, 0), codeOfMove(t, list, 0, -y*100001), codeOfMove(t, list, -x*100001, -y*100001)}, []int64{2, 2, 2})
			same(t, "moves beyond the limits", []int64{codeOfMove(t, list, x*100000, 0), codeOfMove(t, list, 0, y*100000), codeOfMove(t, list, x*49995, y*49995)}, []int64{5, 5, 5})
			edge := movedBy(oval, x*99994, y*99996)
			same(t, "moves from an edge", []int64{codeOfMove(t, edge, 0, 0), codeOfMove(t, edge, x, 0), codeOfMove(t, edge, 0, y), codeOfMove(t, edge, -x*100000, -y*100000)}, []int64{0, 5, 5, 0})
		}
	}
	for _, n := range beyondCoord {
		same(t, fmt.Sprintf("moves by %d", n), []int64{codeOfMove(t, oval, n, 0), codeOfMove(t, oval, 0, n), codeOfMove(t, oval, n, n), codeOfMove(t, oval, 100000, n), codeOfMove(t, oval, n, -100000)}, []int64{2, 2, 2, 2, 2})
	}
}

func TestPromise6MirroredOutlinesHaveAsManyCorners(t *testing.T) {
	random := rand.New(rand.NewSource(36))
	for range 10000 {
		list := randomOutline(random, 2+random.Intn(15))
		mirrored, code := impl.MirrorOutline(list)
		want := mirrorOf(list)
		same(t, fmt.Sprintf("MirrorOutline of %v", list), []any{mirrored, code}, []any{want, int64(impl.OK)})
		corners, area, box, sharpest := told(want)
		checkOutline(t, mirrored, corners, area, box, sharpest)

		before, beforeArea, beforeBox, _ := told(list)
		// The joint at the end of an arc is the one at the end of the next arc of the mirror image.
		for k, joint := range before {
			before[k] = (2*int64(len(list)) - 2 - joint) % int64(len(list))
		}
		slices.Sort(before)
		same(t, fmt.Sprintf("corners of the mirror image of %v", list), corners, before)
		same(t, "area of the mirror image", area, beforeArea)
		same(t, "box of the mirror image", box, []int64{-beforeBox[2], beforeBox[1], -beforeBox[0], beforeBox[3]})
		again, code := impl.MirrorOutline(mirrored)
		same(t, fmt.Sprintf("MirrorOutline twice of %v", list), []any{again, code}, []any{list, int64(impl.OK)})
	}
}

func TestPromise6MirrorTellsItsValue(t *testing.T) {
	drop := []impl.Arc{arc(0, 0, 4, 0, 0, 4), arc(0, 2, 0, 4, 0, 0), arc(2, 0, 0, 0, 4, 0)}
	mirrored, code := impl.MirrorOutline(drop)
	want := []impl.Arc{arc(-2, 0, -4, 0, 0, 0), arc(0, 2, 0, 0, 0, 4), arc(0, 0, 0, 4, -4, 0)}
	same(t, "MirrorOutline of a drop", []any{mirrored, code}, []any{want, int64(impl.OK)})
	checkOutline(t, mirrored, []int64{0}, 16, []int64{-4, 0, 0, 4}, 0)
	edge := movedBy(drop, 99996, -100000)
	mirrored, code = impl.MirrorOutline(edge)
	same(t, "MirrorOutline at an edge", []any{mirrored, code}, []any{movedBy(want, -99996, -100000), int64(impl.OK)})
	oval, _ := impl.OvalOutline(2, 3)
	mirrored, code = impl.MirrorOutline(oval)
	same(t, "MirrorOutline of an oval", []any{mirrored, code}, []any{[]impl.Arc{arc(-6, 0, -15, 12, -15, -12), arc(0, 8, -15, -12, 15, -12), arc(6, 0, 15, -12, 15, 12), arc(0, -8, 15, 12, -15, 12)}, int64(impl.OK)})
}

func TestPromise6OrderOfErrors(t *testing.T) {
	oval, _ := impl.OvalOutline(10000, 10000)
	for _, c := range []struct {
		list       []impl.Arc
		x, y, code int64
	}{
		{oval[1:], 100001, 0, impl.ErrInvalid}, {oval[1:], 0, 0, impl.ErrInvalid}, {nil, math.MinInt64, math.MaxInt64, impl.ErrInvalid}, {oval[1:], 100000, 100000, impl.ErrInvalid},
		{oval, 100001, 0, impl.ErrRange}, {oval, 100000, 100001, impl.ErrRange}, {oval, -100001, 100000, impl.ErrRange}, {oval, 100000, 100000, impl.ErrFull}, {oval, 0, 60001, impl.ErrFull}, {oval, 0, 60000, impl.OK},
	} {
		moved, code := impl.MoveOutline(c.list, c.x, c.y)
		same(t, fmt.Sprintf("MoveOutline of %d arcs by %d, %d", len(c.list), c.x, c.y), []any{len(moved) == 4, code}, []any{c.code == impl.OK, c.code})
	}
}
