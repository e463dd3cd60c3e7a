package tests

import (
	"fmt"
	"math"
	"math/rand"
	"slices"
	"testing"

	"loop.example/g01061/impl"
)

// checkMeans checks EdgeAndMiddle by the definition.
func checkMeans(t *testing.T, plate [][]int64) {
	t.Helper()
	sums, numbers := map[bool]int64{}, map[bool]int64{}
	for _, s := range spotsOf(plate) {
		sums[s.isEdge] += s.height
		numbers[s.isEdge]++
	}
	if numbers[false] == 0 {
		checkMeansTell(t, plate, 0, 0, impl.ErrState)
		return
	}
	checkMeansTell(t, plate, roundedOf(sums[true], numbers[true]), roundedOf(sums[false], numbers[false]), impl.OK)
}

func checkMeansTell(t *testing.T, plate [][]int64, wantEdge, wantMiddle, want int64) {
	t.Helper()
	edge, middle, code := impl.EdgeAndMiddle(plate)
	same(t, fmt.Sprintf("EdgeAndMiddle(%v)", plate), []int64{edge, middle, code}, []int64{wantEdge, wantMiddle, want})
}

func TestPromise9EdgeAndMiddleTellTheirValue(t *testing.T) {
	for _, c := range []struct {
		plate        [][]int64
		edge, middle int64
	}{
		{[][]int64{{1, 1, 1}, {1, 9, 1}, {1, 1, 1}}, 1, 9}, {evenGrid(3, 3, 200), 200, 200}, {evenGrid(10, 10, 1), 1, 1}, {withHeight(evenGrid(3, 3, 9), 1, 1, 1), 9, 1},
		// Corners count once: 8 cells at the edge have the sum 16 and a half is 20.
		{[][]int64{{9, 1, 1}, {1, 7, 1}, {1, 1, 1}}, 2, 7}, {[][]int64{{5, 1, 1}, {1, 7, 1}, {1, 1, 1}}, 2, 7}, {[][]int64{{4, 1, 1}, {1, 7, 1}, {1, 1, 1}}, 1, 7}, {[][]int64{{1, 5, 1}, {1, 7, 1}, {1, 1, 1}}, 2, 7}, {[][]int64{{1, 4, 1}, {1, 7, 1}, {1, 1, 1}}, 1, 7},
		// The half is rounded up in the middle as well.
		{[][]int64{{1, 1, 1, 1}, {1, 6, 7, 1}, {1, 1, 1, 1}}, 1, 7}, {[][]int64{{1, 1, 1}, {1, 6, 1}, {1, 7, 1}, {1, 1, 1}}, 1, 7}, {[][]int64{{1, 1, 1, 1, 1}, {1, 6, 6, 7, 1}, {1, 1, 1, 1, 1}}, 1, 6}, {[][]int64{{1, 1, 1, 1, 1}, {1, 6, 7, 7, 1}, {1, 1, 1, 1, 1}}, 1, 7},
		{[][]int64{{1, 2, 3}, {4, 100, 6}, {7, 8, 9}}, 5, 100},
	} {
		checkMeansTell(t, c.plate, c.edge, c.middle, impl.OK)
		checkMeansTell(t, turned(c.plate), c.edge, c.middle, impl.OK)
	}
	// Without other cells than those of the edge.
	for _, size := range plateSizes {
		plate := evenGrid(size[0], size[1], 30)
		if min(size[0], size[1]) < 3 {
			checkMeansTell(t, plate, 0, 0, impl.ErrState)
		} else {
			checkMeansTell(t, plate, 30, 30, impl.OK)
		}
	}
}

func checkEven(t *testing.T, plate [][]int64, step int64, want bool, code int64) {
	t.Helper()
	isEven, got := impl.EvenPlate(plate, step)
	same(t, fmt.Sprintf("EvenPlate(%v, %d)", plate, step), []any{isEven, got}, []any{want, code})
}

func TestPromise9EvenPlate(t *testing.T) {
	random := rand.New(rand.NewSource(115))
	for range 2000 {
		plate := anyPlate(random)
		steepest := steepestIn(plate)
		for _, step := range []int64{0, 1, steepest - 1, steepest, steepest + 1, 200, random.Int63n(201)} {
			if step >= 0 {
				checkEven(t, plate, step, steepest <= step, impl.OK)
			}
		}
	}
}

func TestPromise9EvenPlateTellsItsValue(t *testing.T) {
	for _, c := range []struct {
		plate [][]int64
		step  int64
	}{
		// Each plate is even with a step, and not with one less.
		{[][]int64{{30, 32}, {31, 33}}, 2}, {[][]int64{{1, 200}}, 199}, {[][]int64{{200, 1}}, 199}, {[][]int64{{1}, {200}}, 199}, {[][]int64{{200}, {1}}, 199},
		{[][]int64{{5, 6}, {8, 9}}, 3}, {[][]int64{{5, 8}, {6, 9}}, 3}, {[][]int64{{9, 8}, {6, 5}}, 3}, {[][]int64{{1, 3, 5}}, 2}, {[][]int64{{1}, {3}, {5}}, 2},
		// Where a row ends and the next one begins, and at corners, no cells are next to each other.
		{[][]int64{{1, 4, 7}, {1, 4, 7}}, 3}, {[][]int64{{1, 4}, {4, 7}}, 3}, {[][]int64{{7, 4}, {4, 1}}, 3},
		{withHeight(evenGrid(10, 10, 7), 9, 9, 8), 1}, {withHeight(evenGrid(10, 10, 7), 0, 9, 6), 1}, {withHeight(evenGrid(10, 10, 1), 5, 5, 200), 199},
	} {
		checkEven(t, c.plate, c.step, true, impl.OK)
		checkEven(t, c.plate, c.step-1, false, impl.OK)
		checkEven(t, c.plate, 200, true, impl.OK)
		checkEven(t, c.plate, 0, false, impl.OK)
	}
	for _, plate := range [][][]int64{{{1}}, {{200}}, evenGrid(1, 10, 7), evenGrid(10, 10, 200)} {
		checkEven(t, plate, 0, true, impl.OK)
		for _, step := range []int64{math.MinInt64, -1, 201, 202, 1 << 32, math.MaxInt64} {
			checkEven(t, plate, step, false, impl.ErrRange)
		}
	}
}

// gradedIn returns a graded plate, ring by ring from its edge.
func gradedIn(rows, columns int, edge, middle int64) [][]int64 {
	rings := (min(rows, columns) + 1) / 2
	plate := evenGrid(rows, columns, edge)
	for ring := 1; ring < rings; ring++ {
		for row := ring; row < rows-ring; row++ {
			for column := ring; column < columns-ring; column++ {
				plate[row][column] = edge + roundedOf((middle-edge)*int64(ring), int64(rings-1))
			}
		}
	}
	return plate
}

func checkGraded(t *testing.T, rows, columns, edge, middle int64, want [][]int64, code int64) {
	t.Helper()
	plate, got := impl.GradedPlate(rows, columns, edge, middle)
	same(t, fmt.Sprintf("GradedPlate(%d, %d, %d, %d)", rows, columns, edge, middle), []any{fmt.Sprint(plate), got}, []any{fmt.Sprint(want), code})
}

// upsideDown has the rows of a plate in the opposite order.
func upsideDown(plate [][]int64) [][]int64 {
	plate = cloneGrid(plate)
	slices.Reverse(plate)
	return plate
}

func TestPromise9GradedPlatesAreTheSameFromAllSides(t *testing.T) {
	random := rand.New(rand.NewSource(116))
	for rows := range 10 {
		for columns := range 10 {
			for k := range 30 {
				edge, middle := 1+random.Int63n(200), 1+random.Int63n(200)
				if k < 4 {
					edge, middle = []int64{1, 200}[k%2], []int64{1, 200}[k/2]
				}
				plate, code := impl.GradedPlate(int64(rows+1), int64(columns+1), edge, middle)
				same(t, "code of GradedPlate", []any{code, impl.ValidPlate(plate)}, []any{int64(impl.OK), true})
				checkGraded(t, int64(rows+1), int64(columns+1), edge, middle, gradedIn(rows+1, columns+1, edge, middle), impl.OK)
				checkGraded(t, int64(rows+1), int64(columns+1), edge, middle, upsideDown(plate), impl.OK)
				checkGraded(t, int64(columns+1), int64(rows+1), edge, middle, turned(plate), impl.OK)
				checkGraded(t, int64(columns+1), int64(rows+1), edge, middle, upsideDown(turned(plate)), impl.OK)
			}
		}
	}
}

func TestPromise9GradedPlateTellsItsValue(t *testing.T) {
	checkGraded(t, 3, 3, 40, 24, [][]int64{{40, 40, 40}, {40, 24, 40}, {40, 40, 40}}, impl.OK)
	checkGraded(t, 1, 1, 40, 24, [][]int64{{40}}, impl.OK)
	checkGraded(t, 1, 10, 1, 200, evenGrid(1, 10, 1), impl.OK)
	checkGraded(t, 10, 1, 200, 1, evenGrid(10, 1, 200), impl.OK)
	checkGraded(t, 2, 2, 40, 24, evenGrid(2, 2, 40), impl.OK)
	checkGraded(t, 2, 10, 40, 24, evenGrid(2, 10, 40), impl.OK)
	checkGraded(t, 3, 4, 40, 24, [][]int64{{40, 40, 40, 40}, {40, 24, 24, 40}, {40, 40, 40, 40}}, impl.OK)
	checkGraded(t, 4, 4, 24, 40, [][]int64{{24, 24, 24, 24}, {24, 40, 40, 24}, {24, 40, 40, 24}, {24, 24, 24, 24}}, impl.OK)
	// The half of a difference is rounded away from 0, so that it lies nearer to the middle.
	checkGraded(t, 5, 5, 10, 13, [][]int64{{10, 10, 10, 10, 10}, {10, 12, 12, 12, 10}, {10, 12, 13, 12, 10}, {10, 12, 12, 12, 10}, {10, 10, 10, 10, 10}}, impl.OK)
	checkGraded(t, 5, 5, 13, 10, [][]int64{{13, 13, 13, 13, 13}, {13, 11, 11, 11, 13}, {13, 11, 10, 11, 13}, {13, 11, 11, 11, 13}, {13, 13, 13, 13, 13}}, impl.OK)
	checkGraded(t, 5, 6, 1, 200, [][]int64{{1, 1, 1, 1, 1, 1}, {1, 101, 101, 101, 101, 1}, {1, 101, 200, 200, 101, 1}, {1, 101, 101, 101, 101, 1}, {1, 1, 1, 1, 1, 1}}, impl.OK)
	checkGraded(t, 10, 10, 30, 30, evenGrid(10, 10, 30), impl.OK)
	plate, _ := impl.GradedPlate(10, 10, 1, 200)
	same(t, "a row of a great plate", plate[4], []int64{1, 51, 101, 150, 200, 200, 150, 101, 51, 1})
	for _, n := range []int64{math.MinInt64, -1, 0, 11, 12, 1 << 32, 1<<32 + 1, math.MaxInt64} {
		checkGraded(t, n, 3, 40, 24, nil, impl.ErrRange)
		checkGraded(t, 3, n, 40, 24, nil, impl.ErrRange)
	}
	for _, n := range noThicks {
		for _, size := range [][2]int64{{1, 1}, {3, 3}, {10, 10}} {
			checkGraded(t, size[0], size[1], n, 24, nil, impl.ErrRange)
			checkGraded(t, size[0], size[1], 40, n, nil, impl.ErrRange)
			checkGraded(t, size[0], size[1], n, n, nil, impl.ErrRange)
		}
	}
}

func checkPlateGap(t *testing.T, a, b [][]int64, want, code int64) {
	t.Helper()
	gap, got := impl.PlateGap(a, b)
	same(t, fmt.Sprintf("PlateGap(%v, %v)", a, b), []int64{gap, got}, []int64{want, code})
	gap, got = impl.PlateGap(b, a)
	same(t, fmt.Sprintf("PlateGap(%v, %v)", b, a), []int64{gap, got}, []int64{want, code})
}

func TestPromise9PlateGap(t *testing.T) {
	random := rand.New(rand.NewSource(117))
	for range 2000 {
		a := anyPlate(random)
		b := randomGrid(random, len(a), len(a[0]), 1, 1+random.Int63n(200))
		want := int64(0)
		for _, s := range spotsOf(a) {
			want = max(want, s.height-b[s.row][s.column], b[s.row][s.column]-s.height)
		}
		checkPlateGap(t, a, b, want, impl.OK)
		checkPlateGap(t, a, cloneGrid(a), 0, impl.OK)
		s := spotsOf(a)[random.Intn(len(a)*len(a[0]))]
		changed := withHeight(a, s.row, s.column, 1+random.Int63n(200))
		checkPlateGap(t, a, changed, max(s.height-changed[s.row][s.column], changed[s.row][s.column]-s.height), impl.OK)
	}
}

func TestPromise9PlateGapTellsItsValue(t *testing.T) {
	plate := [][]int64{{30, 32}, {31, 33}}
	checkPlateGap(t, plate, [][]int64{{30, 32}, {29, 31}}, 2, impl.OK)
	checkPlateGap(t, plate, [][]int64{{33, 32}, {29, 31}}, 3, impl.OK)
	checkPlateGap(t, plate, plate, 0, impl.OK)
	checkPlateGap(t, [][]int64{{1}}, [][]int64{{200}}, 199, impl.OK)
	checkPlateGap(t, evenGrid(10, 10, 7), withHeight(evenGrid(10, 10, 7), 9, 9, 9), 2, impl.OK)
	// Only cells at the same place count.
	checkPlateGap(t, [][]int64{{1, 9}}, [][]int64{{9, 1}}, 8, impl.OK)
	checkPlateGap(t, [][]int64{{1, 9}}, [][]int64{{2, 8}}, 1, impl.OK)
}

func TestPromise9PlatesOfDifferentSizes(t *testing.T) {
	for _, a := range plateSizes {
		for _, b := range plateSizes {
			one, other := evenGrid(a[0], a[1], 30), evenGrid(b[0], b[1], 32)
			if a == b {
				checkPlateGap(t, one, other, 2, impl.OK)
			} else {
				checkPlateGap(t, one, other, 0, impl.ErrOrder)
			}
			checkPlateGap(t, one, withHeight(other, 0, 0, 0), 0, impl.ErrInvalid)
			checkPlateGap(t, one, withHeight(other, b[0]-1, b[1]-1, 201), 0, impl.ErrInvalid)
		}
	}
}
