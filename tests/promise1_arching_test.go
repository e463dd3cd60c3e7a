package tests

import (
	"fmt"
	"math"
	"math/rand"
	"slices"
	"testing"

	"loop.example/g01061/impl"
)

// archNumbers are limits of chapter 7 that are just reached and just passed, and the ends of int64.
var archNumbers = []int64{math.MinInt64, math.MinInt64 + 1, -1001, -1, 0, 1, 10, 11, 40, 41, 999, 1000, 1001, 1 << 32, math.MaxInt64 - 1, math.MaxInt64}

// archGrids are grids that are valid, too large, uneven or with wrong heights.
func archGrids() [][][]int64 {
	random := rand.New(rand.NewSource(99))
	grids := [][][]int64{nil, {}, {nil}, {{}}, {{}, {}}, {{1, 2}, {1}}, {{1}, {1, 2}}, {{1}, nil}, {nil, {1}}, evenGrid(100000, 1, 7), evenGrid(1, 100000, 7), evenGrid(100000, 0, 7)}
	for _, size := range [][2]int{{1, 1}, {1, 2}, {2, 1}, {1, 10}, {10, 1}, {2, 2}, {3, 3}, {3, 4}, {10, 10}, {11, 10}, {10, 11}, {11, 11}} {
		grids = append(grids, randomGrid(random, size[0], size[1], 0, 3), randomGrid(random, size[0], size[1], 0, 1001))
	}
	for _, n := range archNumbers {
		grids = append(grids, [][]int64{{n}}, evenGrid(3, 3, n), withHeight(evenGrid(3, 3, 40), 1, 1, n), withHeight(evenGrid(10, 10, 40), 9, 9, n))
	}
	return grids
}

func archCalls() []namedCall {
	var calls []namedCall
	grids := archGrids()
	for k, grid := range grids {
		add := func(name string, call func() []any) {
			calls = append(calls, namedCall{fmt.Sprintf("%s of grid %d", name, k), call})
		}
		add("ValidArch", func() []any { return []any{impl.ValidArch(grid), impl.FallsToEdge(grid)} })
		add("HighestOf", func() []any { row, column, code := impl.HighestOf(grid); return []any{row, column, code} })
		add("SteepestStep", func() []any { step, code := impl.SteepestStep(grid); return []any{step, code} })
		add("ChannelGap", func() []any { gap, code := impl.ChannelGap(grid); return []any{gap, code} })
		add("MirrorGap", func() []any { gap, code := impl.MirrorGap(grid); return []any{gap, code} })
		add("PitsOf", func() []any { pits, code := impl.PitsOf(grid); return []any{pits, code} })
		add("SmoothArch", func() []any { smooth, code := impl.SmoothArch(grid); return []any{smooth, code} })
		for _, n := range archNumbers {
			add("WoodOver", func() []any { wood, code := impl.WoodOver(grid, n); return []any{wood, code} })
			add("HollowFor", func() []any { hollow, code := impl.HollowFor(grid, n); return []any{hollow, code} })
			for _, other := range grids {
				add("ThinPlaces", func() []any { thin, code := impl.ThinPlaces(grid, other, n); return []any{thin, code} })
			}
		}
	}
	return calls
}

func TestPromise1ArchingReturnsEqualResults(t *testing.T) {
	checkEqualResults(t, archCalls())
}

func TestPromise1NilAndEmptyGrids(t *testing.T) {
	for _, grid := range [][][]int64{nil, {}, {nil}, {{}}, {nil, nil}, {{}, {}}, {nil, {}}, make([][]int64, 0, 10), {make([]int64, 0, 10)}, make([][]int64, 10)} {
		checkInvalidArch(t, grid)
	}
}

func TestPromise1EqualGridsInOtherMemory(t *testing.T) {
	random := rand.New(rand.NewSource(100))
	for range 200 {
		// All rows are one and the same slice, and both grids are one and the same.
		row := randomGrid(random, 1, 1+random.Intn(10), 0, 5)[0]
		grid := slices.Repeat([][]int64{row}, 1+random.Intn(10))
		checkShape(t, grid, shapeOf(cloneGrid(grid)))
		checkSmooth(t, grid, smoothIn(cloneGrid(grid)))
		checkThin(t, grid, grid, 0, nil, impl.OK)
		checkThin(t, grid, grid, 1, allPlaces(grid), impl.OK)
		checkHollow(t, grid, 0, cloneGrid(grid), impl.OK)
	}
}

// roomyGrid is a grid within a longer memory, all of which may be looked at: rows and columns are
// left out of it at its end.
func roomyGrid(memory [][]int64, rows, columns int) [][]int64 {
	grid := slices.Clone(memory)
	for row := range grid {
		grid[row] = memory[row][:columns]
	}
	return grid[:rows]
}

// checkKeepsGrids makes calls with two grids that are the first rows and columns of longer memories,
// and checks that nothing of these was changed.
func checkKeepsGrids(t *testing.T, size [2]int, memory, otherMemory [][]int64, call func(grid, other [][]int64)) {
	t.Helper()
	all := len(memory)
	grid, other := roomyGrid(memory, size[0], size[1]), roomyGrid(otherMemory, size[0], size[1])
	rows, otherRows := cloneGrid(grid[:all]), cloneGrid(other[:all])
	before, otherBefore := cloneGrid(memory), cloneGrid(otherMemory)
	call(grid, other)
	call(grid, grid)
	same(t, fmt.Sprintf("memory of a grid %v", size), []any{memory, otherMemory}, []any{before, otherBefore})
	same(t, fmt.Sprintf("rows of a grid %v", size), []any{grid[:all], other[:all]}, []any{rows, otherRows})
}

// checkNewRows checks that no two rows of a result share memory, and no two results.
func checkNewRows(t *testing.T, name string, call func() [][]int64) {
	t.Helper()
	want := cloneGrid(call())
	if len(want) < 2 {
		t.Fatalf("%s returns only %v", name, want)
	}
	for k := range want {
		first, second := call(), call()
		spoil(first[k], -7)
		for j := range first {
			if j != k {
				same(t, name+", a row beside another one", first[j], want[j])
			}
		}
		spoil(first, []int64{-7})
		same(t, name+" of another call", second, want)
		same(t, name+" of a later call", call(), want)
	}
}

func callWithGrids(outer, inner [][]int64) {
	impl.ValidArch(outer)
	impl.HighestOf(outer)
	impl.SteepestStep(outer)
	impl.ChannelGap(outer)
	impl.MirrorGap(outer)
	impl.PitsOf(outer)
	impl.FallsToEdge(outer)
	impl.SmoothArch(outer)
	for _, n := range []int64{-1, 0, 3, 1000, 1001} {
		impl.WoodOver(outer, n)
		impl.ThinPlaces(outer, inner, n)
		impl.ThinPlaces(inner, outer, n)
		impl.HollowFor(outer, n)
	}
}

func TestPromise1ArchingModifiesNoArgument(t *testing.T) {
	random := rand.New(rand.NewSource(101))
	for _, size := range [][2]int{{0, 3}, {1, 1}, {1, 10}, {10, 1}, {3, 3}, {4, 5}, {10, 10}, {11, 3}, {3, 11}} {
		for _, wrong := range []int64{5, 1001, -1} {
			outerMemory, innerMemory := randomGrid(random, 13, 13, 3, 8), randomGrid(random, 13, 13, 0, 4)
			outerMemory[max(0, size[0]-1)][size[1]-1] = wrong
			checkKeepsGrids(t, size, outerMemory, innerMemory, callWithGrids)
		}
	}
}

func TestPromise1GridsAreNewMemory(t *testing.T) {
	outer := [][]int64{{40, 40, 40, 10}, {40, 90, 60, 40}, {40, 10, 40, 40}, {10, 40, 40, 10}}
	inner := evenGrid(4, 4, 10)
	outerBefore, innerBefore := cloneGrid(outer), cloneGrid(inner)
	for name, call := range map[string]func() [][]int64{
		"PitsOf":         func() [][]int64 { pits, _ := impl.PitsOf(outer); return pits },
		"SmoothArch":     func() [][]int64 { smooth, _ := impl.SmoothArch(outer); return smooth },
		"SmoothArch two": func() [][]int64 { smooth, _ := impl.SmoothArch(outer[:2]); return smooth },
		"ThinPlaces":     func() [][]int64 { thin, _ := impl.ThinPlaces(outer, inner, 30); return thin },
		"HollowFor 0":    func() [][]int64 { hollow, _ := impl.HollowFor(outer, 0); return hollow },
		"HollowFor 10":   func() [][]int64 { hollow, _ := impl.HollowFor(outer, 10); return hollow },
	} {
		checkNewRows(t, name, call)
		same(t, "arguments of "+name, []any{outer, inner}, []any{outerBefore, innerBefore})
	}
}
