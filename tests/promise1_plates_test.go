package tests

import (
	"fmt"
	"math"
	"math/rand"
	"slices"
	"testing"

	"loop.example/g01061/impl"
)

// plateNumbers are limits of chapter 8 that are just reached and just passed, and the ends of int64.
var plateNumbers = []int64{math.MinInt64, math.MinInt64 + 1, -201, -1, 0, 1, 2, 10, 11, 30, 199, 200, 201, 2000, 2001, 10000, 10001, 1000000000, 1000000001, 1 << 32, math.MaxInt64 - 1, math.MaxInt64}

// oddPlates are plates that are valid, too large, uneven or with wrong thicknesses.
func oddPlates() [][][]int64 {
	random := rand.New(rand.NewSource(118))
	plates := [][][]int64{nil, {}, {nil}, {{}}, {{}, {}}, {{1, 2}, {1}}, {{1}, {1, 2}}, {{1}, nil}, {nil, {1}}, evenGrid(100000, 1, 7), evenGrid(1, 100000, 7), evenGrid(100000, 0, 7)}
	for _, size := range [][2]int{{1, 1}, {1, 10}, {10, 1}, {2, 2}, {3, 3}, {10, 10}, {11, 10}, {10, 11}, {11, 11}} {
		plates = append(plates, randomGrid(random, size[0], size[1], 1, 3), randomGrid(random, size[0], size[1], 1, 200))
	}
	for _, n := range plateNumbers {
		plates = append(plates, [][]int64{{n}}, withHeight(evenGrid(3, 3, 30), 1, 1, n), withHeight(evenGrid(10, 10, 30), 9, 9, n))
	}
	return plates
}

func plateCalls() []namedCall {
	var calls []namedCall
	plates := oddPlates()
	for k, plate := range plates {
		add := func(name string, call func() []any) {
			calls = append(calls, namedCall{fmt.Sprintf("%s of plate %d", name, k), call})
		}
		add("ValidPlate", func() []any { return []any{impl.ValidPlate(plate), impl.PlateText(plate)} })
		add("RowStiff", func() []any { stiffs, code := impl.RowStiff(plate); return []any{stiffs, code} })
		add("WeakestRow", func() []any { row, stiff, code := impl.WeakestRow(plate); return []any{row, stiff, code} })
		add("EdgeAndMiddle", func() []any { edge, middle, code := impl.EdgeAndMiddle(plate); return []any{edge, middle, code} })
		for _, other := range plates {
			add("PlateGap", func() []any { gap, code := impl.PlateGap(plate, other); return []any{gap, code} })
		}
		for _, a := range plateNumbers {
			add("EvenPlate", func() []any { isEven, code := impl.EvenPlate(plate, a); return []any{isEven, code} })
			add("TooThin", func() []any { thin, code := impl.TooThin(plate, a); return []any{thin, code} })
			for _, b := range plateNumbers {
				add("PlateMass", func() []any { mass, code := impl.PlateMass(plate, a, b); return []any{mass, code} })
				add("ThinAll", func() []any { thin, code := impl.ThinAll(plate, a, b); return []any{thin, code} })
				add("ScrapeRow", func() []any { thin, code := impl.ScrapeRow(plate, a, b, 30); return []any{thin, code} })
				add("ScrapeRow 0", func() []any { thin, code := impl.ScrapeRow(plate, 0, a, b); return []any{thin, code} })
				add("ThinTo", func() []any { by, code := impl.ThinTo(plate, 100, 400, a, b); return []any{by, code} })
				add("ThinTo a mass", func() []any { by, code := impl.ThinTo(plate, a, b, 7, 1); return []any{by, code} })
			}
		}
	}
	return calls
}

func gradedCalls() []namedCall {
	var calls []namedCall
	for _, a := range plateNumbers {
		for _, b := range plateNumbers {
			for _, c := range plateNumbers {
				call := func() []any { plate, code := impl.GradedPlate(a, b, c, a); return []any{plate, code} }
				calls = append(calls, namedCall{fmt.Sprintf("GradedPlate(%d, %d, %d, %d)", a, b, c, a), call})
				call = func() []any { plate, code := impl.GradedPlate(3, a, b, c); return []any{plate, code} }
				calls = append(calls, namedCall{fmt.Sprintf("GradedPlate(3, %d, %d, %d)", a, b, c), call})
			}
		}
	}
	return calls
}

func plateTextCalls() []namedCall {
	var calls []namedCall
	for _, s := range slices.Concat(texts, wrongPlateTexts(), []string{"30,32/31,33"}) {
		call := func() []any { plate, ok := impl.ReadPlate(s); return []any{plate, ok} }
		calls = append(calls, namedCall{fmt.Sprintf("ReadPlate(%s)", shown(s)), call})
	}
	return calls
}

func TestPromise1PlatesReturnEqualResults(t *testing.T) {
	checkEqualResults(t, slices.Concat(plateCalls(), gradedCalls(), plateTextCalls()))
}

func TestPromise1NilAndEmptyPlates(t *testing.T) {
	for _, plate := range [][][]int64{nil, {}, {nil}, {{}}, {nil, nil}, {{}, {}}, {nil, {}}, make([][]int64, 0, 10), {make([]int64, 0, 10)}, make([][]int64, 10)} {
		checkInvalidPlate(t, plate)
	}
}

func TestPromise1EqualPlatesInOtherMemory(t *testing.T) {
	random := rand.New(rand.NewSource(119))
	for range 200 {
		// All rows are one and the same slice, and both plates are one and the same.
		row := randomGrid(random, 1, 1+random.Intn(10), 1, 9)[0]
		plate := slices.Repeat([][]int64{row}, 1+random.Intn(10))
		checkPlate(t, plate)
		checkPlateGap(t, plate, plate, 0, impl.OK)
		checkThinAll(t, plate, 3, 4, thinIn(cloneGrid(plate), 3, 4), impl.OK)
		checkScrapes(t, plate, 3, 4)
		checkTooThin(t, plate, 5)
	}
}

func callWithPlates(plate, other [][]int64) {
	impl.ValidPlate(plate)
	impl.PlateText(plate)
	impl.RowStiff(plate)
	impl.WeakestRow(plate)
	impl.EdgeAndMiddle(plate)
	impl.PlateGap(plate, other)
	impl.PlateGap(other, plate)
	for _, n := range []int64{-1, 0, 1, 3, 200, 201} {
		impl.PlateMass(plate, n, 400)
		impl.ThinAll(plate, 2, n)
		impl.ThinAll(plate, n, 1)
		impl.ThinTo(plate, 100, 400, n, 1)
		impl.ThinTo(plate, 100, 400, 100, n)
		impl.ScrapeRow(plate, n, 2, 1)
		impl.ScrapeRow(plate, 0, n, 1)
		impl.EvenPlate(plate, n)
		impl.TooThin(plate, n)
	}
}

func TestPromise1PlatesModifyNoArgument(t *testing.T) {
	random := rand.New(rand.NewSource(120))
	for _, size := range [][2]int{{0, 3}, {1, 1}, {1, 10}, {10, 1}, {3, 3}, {4, 5}, {10, 10}, {11, 3}, {3, 11}} {
		for _, wrong := range []int64{5, 201, 0} {
			memory, otherMemory := randomGrid(random, 13, 13, 1, 9), randomGrid(random, 13, 13, 1, 9)
			memory[max(0, size[0]-1)][size[1]-1] = wrong
			checkKeepsGrids(t, size, memory, otherMemory, callWithPlates)
		}
	}
}

func TestPromise1PlatesAreNewMemory(t *testing.T) {
	plate := [][]int64{{40, 40, 40, 10}, {40, 90, 60, 40}, {40, 10, 40, 40}, {10, 40, 40, 10}}
	before := cloneGrid(plate)
	for name, call := range map[string]func() [][]int64{
		"ThinAll by 0":    func() [][]int64 { thin, _ := impl.ThinAll(plate, 0, 1); return thin },
		"ThinAll by 10":   func() [][]int64 { thin, _ := impl.ThinAll(plate, 10, 1); return thin },
		"ScrapeRow":       func() [][]int64 { thin, _ := impl.ScrapeRow(plate, 1, 10, 1); return thin },
		"ScrapeRow by 0":  func() [][]int64 { thin, _ := impl.ScrapeRow(plate, 0, 0, 1); return thin },
		"GradedPlate":     func() [][]int64 { graded, _ := impl.GradedPlate(4, 4, 40, 24); return graded },
		"GradedPlate one": func() [][]int64 { graded, _ := impl.GradedPlate(10, 1, 40, 24); return graded },
		"TooThin":         func() [][]int64 { thin, _ := impl.TooThin(plate, 40); return thin },
		"ReadPlate":       func() [][]int64 { read, _ := impl.ReadPlate("1,2/3,4/5,6"); return read },
	} {
		checkNewRows(t, name, call)
		same(t, "argument of "+name, plate, before)
	}
	first, _ := impl.RowStiff(plate)
	second, _ := impl.RowStiff(plate)
	spoil(first, -7)
	same(t, "RowStiff of another call", second, stiffsIn(before))
	same(t, "argument of RowStiff", plate, before)
}
