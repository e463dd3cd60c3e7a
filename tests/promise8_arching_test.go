package tests

import (
	"cmp"
	"fmt"
	"math"
	"math/rand"
	"slices"
	"testing"

	"loop.example/g01061/impl"
)

// beyondRise are numbers that are no heights.
var beyondRise = []int64{math.MinInt64, math.MinInt64 + 1, -1000, -2, -1, 1001, 1002, 1 << 32, 1<<32 + 1, math.MaxInt64 - 1, math.MaxInt64}

// evenGrid is a grid with the same height everywhere.
func evenGrid(rows, columns int, height int64) [][]int64 {
	grid := make([][]int64, rows)
	for row := range grid {
		grid[row] = slices.Repeat([]int64{height}, columns)
	}
	return grid
}

// randomGrid has heights from least on, so few of them that many are equal if kinds is small.
func randomGrid(random *rand.Rand, rows, columns int, least, kinds int64) [][]int64 {
	grid := evenGrid(rows, columns, 0)
	for _, row := range grid {
		for column := range row {
			row[column] = least + random.Int63n(kinds)
		}
	}
	return grid
}

// anyGrid has a random number of rows and of columns, and few or many different heights.
func anyGrid(random *rand.Rand) [][]int64 {
	kinds := []int64{1, 2, 3, 5, 20, 1001}[random.Intn(6)]
	return randomGrid(random, 1+random.Intn(10), 1+random.Intn(10), random.Int63n(1002-kinds), kinds)
}

// cloneGrid is a grid that shares nothing with another one.
func cloneGrid(grid [][]int64) [][]int64 {
	clone := make([][]int64, len(grid))
	for row := range grid {
		clone[row] = slices.Clone(grid[row])
	}
	return clone
}

// withHeight is a grid with another height at one place.
func withHeight(grid [][]int64, row, column int, height int64) [][]int64 {
	grid = cloneGrid(grid)
	grid[row][column] = height
	return grid
}

// turned is a grid whose rows are the columns of another one.
func turned(grid [][]int64) [][]int64 {
	columns := evenGrid(len(grid[0]), len(grid), 0)
	for row := range columns {
		for column := range columns[row] {
			columns[row][column] = grid[column][row]
		}
	}
	return columns
}

// isArch reports whether a grid is valid by the definition.
func isArch(grid [][]int64) bool {
	for _, row := range grid {
		if len(row) < 1 || len(row) > 10 || len(row) != len(grid[0]) || slices.Min(row) < 0 || slices.Max(row) > 1000 {
			return false
		}
	}
	return len(grid) >= 1 && len(grid) <= 10
}

// spot is a place of a grid, with its height and whether it is at the edge.
type spot struct {
	row, column int
	height      int64
	isEdge      bool
}

// spotsOf returns all places of a grid, by rows and then by columns.
func spotsOf(grid [][]int64) []spot {
	var spots []spot
	for row := range grid {
		for column, height := range grid[row] {
			isEdge := row == 0 || column == 0 || row+1 == len(grid) || column+1 == len(grid[row])
			spots = append(spots, spot{row, column, height, isEdge})
		}
	}
	return spots
}

// isBeside reports whether two places are neighbours.
func (s spot) isBeside(o spot) bool {
	return s.row == o.row && (s.column == o.column+1 || s.column+1 == o.column) ||
		s.column == o.column && (s.row == o.row+1 || s.row+1 == o.row)
}

// besides returns the neighbours of a place.
func (s spot) besides(spots []spot) []spot {
	var found []spot
	for _, o := range spots {
		if s.isBeside(o) {
			found = append(found, o)
		}
	}
	return found
}

func highestIn(grid [][]int64) (int64, int64) {
	spots := spotsOf(grid)
	slices.SortStableFunc(spots, func(s, o spot) int { return cmp.Compare(o.height, s.height) })
	return int64(spots[0].row), int64(spots[0].column)
}

func steepestIn(grid [][]int64) int64 {
	steepest := int64(0)
	for _, s := range spotsOf(grid) {
		for _, o := range s.besides(spotsOf(grid)) {
			steepest = max(steepest, s.height-o.height)
		}
	}
	return steepest
}

func channelIn(grid [][]int64) int64 {
	var edge []int64
	for _, s := range spotsOf(grid) {
		if s.isEdge {
			edge = append(edge, s.height)
		}
	}
	return slices.Max(edge) - slices.Min(edge)
}

func mirrorIn(grid [][]int64) int64 {
	greatest := int64(0)
	for _, row := range grid {
		for left, right := 0, len(row)-1; left < right; left, right = left+1, right-1 {
			greatest = max(greatest, row[left]-row[right], row[right]-row[left])
		}
	}
	return greatest
}

func pitsIn(grid [][]int64) [][]int64 {
	pits := [][]int64{}
	for _, s := range spotsOf(grid) {
		near := s.besides(spotsOf(grid))
		isHigher := func(o spot) bool { return o.height > s.height }
		if len(near) > 0 && !slices.ContainsFunc(near, func(o spot) bool { return !isHigher(o) }) {
			pits = append(pits, []int64{int64(s.row), int64(s.column)})
		}
	}
	return pits
}

// runsOff reports whether water runs from a place to the edge, by the definition.
func (s spot) runsOff(spots []spot) bool {
	return s.isEdge || slices.ContainsFunc(s.besides(spots), func(o spot) bool { return o.height < s.height && o.runsOff(spots) })
}

func fallsIn(grid [][]int64) bool {
	spots := spotsOf(grid)
	return !slices.ContainsFunc(spots, func(s spot) bool { return !s.runsOff(spots) })
}

// shape is what the functions with one grid alone tell of it.
type shape struct {
	row, column, steepest, channel, mirror int64
	pits                                   [][]int64
	falls                                  bool
}

func shapeOf(grid [][]int64) shape {
	row, column := highestIn(grid)
	return shape{row, column, steepestIn(grid), channelIn(grid), mirrorIn(grid), pitsIn(grid), fallsIn(grid)}
}

// checkShape checks the functions that tell something of a grid, without a number.
func checkShape(t *testing.T, grid [][]int64, want shape) {
	t.Helper()
	name := " of " + fmt.Sprint(grid)
	same(t, "ValidArch"+name, impl.ValidArch(grid), true)
	row, column, code := impl.HighestOf(grid)
	same(t, "HighestOf"+name, []int64{row, column, code}, []int64{want.row, want.column, impl.OK})
	steepest, code := impl.SteepestStep(grid)
	same(t, "SteepestStep"+name, []int64{steepest, code}, []int64{want.steepest, impl.OK})
	channel, code := impl.ChannelGap(grid)
	same(t, "ChannelGap"+name, []int64{channel, code}, []int64{want.channel, impl.OK})
	mirror, code := impl.MirrorGap(grid)
	same(t, "MirrorGap"+name, []int64{mirror, code}, []int64{want.mirror, impl.OK})
	pits, code := impl.PitsOf(grid)
	same(t, "PitsOf"+name, []any{fmt.Sprint(pits), code}, []any{fmt.Sprint(want.pits), int64(impl.OK)})
	same(t, "FallsToEdge"+name, impl.FallsToEdge(grid), want.falls)
}

// checkInvalidArch checks that a grid is as nothing, whatever else is wrong.
func checkInvalidArch(t *testing.T, grid [][]int64) {
	t.Helper()
	name := " of " + shown(grid)
	check := func(function string, isZero bool, code int64) {
		t.Helper()
		same(t, function+name, []any{isZero, code}, []any{true, int64(impl.ErrInvalid)})
	}
	same(t, "ValidArch"+name, impl.ValidArch(grid), false)
	same(t, "FallsToEdge"+name, impl.FallsToEdge(grid), false)
	row, column, code := impl.HighestOf(grid)
	check("HighestOf", row == 0 && column == 0, code)
	steepest, code := impl.SteepestStep(grid)
	check("SteepestStep", steepest == 0, code)
	channel, code := impl.ChannelGap(grid)
	check("ChannelGap", channel == 0, code)
	mirror, code := impl.MirrorGap(grid)
	check("MirrorGap", mirror == 0, code)
	pits, code := impl.PitsOf(grid)
	check("PitsOf", len(pits) == 0, code)
	smooth, code := impl.SmoothArch(grid)
	check("SmoothArch", len(smooth) == 0, code)
	for _, n := range []int64{math.MinInt64, -1, 0, 500, 1000, 1001, math.MaxInt64} {
		wood, code := impl.WoodOver(grid, n)
		check(fmt.Sprintf("WoodOver %d", n), wood == 0, code)
		hollow, code := impl.HollowFor(grid, n)
		check(fmt.Sprintf("HollowFor %d", n), len(hollow) == 0, code)
		for _, other := range [][][]int64{{{7}}, evenGrid(3, 3, 7), evenGrid(10, 10, 7), grid, nil} {
			thin, code := impl.ThinPlaces(grid, other, n)
			check(fmt.Sprintf("ThinPlaces %d, outer", n), len(thin) == 0, code)
			thin, code = impl.ThinPlaces(other, grid, n)
			check(fmt.Sprintf("ThinPlaces %d, inner", n), len(thin) == 0, code)
		}
	}
}

func TestPromise8Constants(t *testing.T) {
	same(t, "MaxGrid and MaxRise", []int64{impl.MaxGrid, impl.MaxRise}, []int64{10, 1000})
}

func TestPromise8SizesOfGrids(t *testing.T) {
	for rows := range 13 {
		for columns := range 13 {
			grid := evenGrid(rows, columns, 7)
			if isArch(grid) != (1 <= rows && rows <= 10 && 1 <= columns && columns <= 10) {
				t.Fatalf("%v is told wrong", grid)
			}
			if isArch(grid) {
				checkShape(t, grid, shape{pits: [][]int64{}, falls: rows < 3 || columns < 3})
			} else {
				checkInvalidArch(t, grid)
			}
		}
	}
	for _, grid := range [][][]int64{evenGrid(100000, 1, 7), evenGrid(1, 100000, 7), evenGrid(100000, 0, 7), evenGrid(2, 100000, 7)} {
		checkInvalidArch(t, grid)
	}
}

func TestPromise8RowsOfDifferentLengths(t *testing.T) {
	for _, size := range [][2]int{{2, 1}, {2, 2}, {3, 3}, {2, 10}, {10, 1}, {10, 9}, {10, 10}} {
		grid := evenGrid(size[0], size[1], 7)
		for row := range grid {
			for _, columns := range []int{0, 1, size[1] - 1, size[1] + 1, 10, 11} {
				if columns != size[1] {
					wrong := cloneGrid(grid)
					wrong[row] = slices.Repeat([]int64{7}, columns)
					checkInvalidArch(t, wrong)
				}
			}
			wrong := cloneGrid(grid)
			wrong[row] = nil
			checkInvalidArch(t, wrong)
		}
	}
	checkInvalidArch(t, [][]int64{nil})
	checkInvalidArch(t, [][]int64{{}})
	checkInvalidArch(t, [][]int64{{}, {7}})
	checkInvalidArch(t, [][]int64{{7}, {}})
	checkInvalidArch(t, [][]int64{{1, 2}, {1}})
	// As many places as two rows of two, in rows that are not as long.
	checkInvalidArch(t, [][]int64{{1, 2, 3}, {4}})
}

func TestPromise8HeightsAtTheLimits(t *testing.T) {
	for _, size := range [][2]int{{1, 1}, {1, 10}, {10, 1}, {2, 2}, {3, 3}, {10, 10}} {
		grid := evenGrid(size[0], size[1], 7)
		for row := range grid {
			for column := range grid[row] {
				for _, height := range []int64{0, 1, 999, 1000} {
					changed := withHeight(grid, row, column, height)
					checkShape(t, changed, shapeOf(changed))
				}
				for _, height := range beyondRise {
					wrong := withHeight(grid, row, column, height)
					if isArch(wrong) || impl.ValidArch(wrong) {
						t.Errorf("%v is valid", wrong)
					}
				}
			}
		}
	}
	for _, height := range beyondRise {
		checkInvalidArch(t, [][]int64{{height}})
		checkInvalidArch(t, evenGrid(3, 3, height))
		checkInvalidArch(t, withHeight(evenGrid(3, 3, 7), 1, 1, height))
		checkInvalidArch(t, withHeight(evenGrid(10, 10, 7), 9, 9, height))
		checkInvalidArch(t, withHeight(evenGrid(10, 10, 7), 0, 0, height))
	}
}

// gridNumber is the grid whose heights are the digits of a number to a base, the last place first.
func gridNumber(rows, columns int, base, number int64) [][]int64 {
	grid := evenGrid(rows, columns, 0)
	for _, row := range slices.Backward(grid) {
		for column := range slices.Backward(row) {
			row[column] = number % base
			number /= base
		}
	}
	return grid
}

func TestPromise8AllSmallGrids(t *testing.T) {
	for _, c := range []struct {
		rows, columns int
		base          int64
	}{
		{1, 1, 4}, {1, 2, 4}, {2, 1, 4}, {1, 3, 4}, {3, 1, 4}, {1, 4, 4}, {4, 1, 4}, {1, 5, 3}, {2, 2, 5}, {2, 3, 3}, {3, 2, 3}, {2, 4, 2}, {4, 2, 2}, {3, 3, 2}, {3, 4, 2}, {4, 3, 2},
	} {
		for number := range int64(math.Pow(float64(c.base), float64(c.rows*c.columns))) {
			grid := gridNumber(c.rows, c.columns, c.base, number)
			checkShape(t, grid, shapeOf(grid))
		}
	}
}

func TestPromise8RandomGrids(t *testing.T) {
	random := rand.New(rand.NewSource(91))
	seen := map[string]int{}
	for range 4000 {
		grid := anyGrid(random)
		want := shapeOf(grid)
		checkShape(t, grid, want)
		if len(want.pits) > 0 {
			seen["pits"]++
		}
		if want.falls {
			seen["falls"]++
		} else {
			seen["stays"]++
		}
		if !want.falls && len(want.pits) == 0 {
			seen["stays without pits"]++
		}
	}
	for _, name := range []string{"pits", "falls", "stays", "stays without pits"} {
		if seen[name] < 100 {
			t.Errorf("only %d grids of the kind: %s", seen[name], name)
		}
	}
}

func TestPromise8HighestOfTellsItsValue(t *testing.T) {
	for _, c := range []struct {
		grid        [][]int64
		row, column int64
	}{
		{[][]int64{{0}}, 0, 0}, {[][]int64{{1000}}, 0, 0}, {[][]int64{{5, 7, 1}}, 0, 1}, {[][]int64{{5}, {7}, {1}}, 1, 0}, {[][]int64{{1, 2}, {3, 4}}, 1, 1},
		{[][]int64{{7, 7}, {7, 7}}, 0, 0}, {[][]int64{{1, 7}, {7, 7}}, 0, 1}, {[][]int64{{1, 1}, {7, 7}}, 1, 0}, {[][]int64{{1, 1, 7}, {7, 1, 1}}, 0, 2}, {[][]int64{{1, 1, 0}, {0, 1, 9}, {9, 0, 0}}, 1, 2},
		{[][]int64{{40, 40, 40}, {40, 100, 40}, {40, 40, 40}}, 1, 1}, {withHeight(evenGrid(10, 10, 999), 9, 9, 1000), 9, 9}, {evenGrid(10, 10, 1000), 0, 0}, {evenGrid(10, 10, 0), 0, 0},
	} {
		row, column, code := impl.HighestOf(c.grid)
		same(t, fmt.Sprintf("HighestOf(%v)", c.grid), []int64{row, column, code}, []int64{c.row, c.column, impl.OK})
	}
}

func TestPromise8StepsAndGapsTellTheirValue(t *testing.T) {
	for _, c := range []struct {
		grid                      [][]int64
		steepest, channel, mirror int64
	}{
		{[][]int64{{5}}, 0, 0, 0}, {[][]int64{{1000}}, 0, 0, 0}, {[][]int64{{0, 1000}}, 1000, 1000, 1000}, {[][]int64{{1000, 0}}, 1000, 1000, 1000}, {[][]int64{{0}, {1000}}, 1000, 1000, 0},
		{[][]int64{{1000}, {0}}, 1000, 1000, 0}, {[][]int64{{5, 7, 1}}, 6, 6, 4}, {[][]int64{{1, 7, 5}}, 6, 6, 4}, {[][]int64{{5}, {7}, {1}}, 6, 6, 0}, {[][]int64{{3, 900, 3}}, 897, 897, 0},
		// The steepest step may lie in a row or in a column; corners alone are no neighbours.
		{[][]int64{{0, 5}, {5, 10}}, 5, 10, 5}, {[][]int64{{0, 10}, {10, 0}}, 10, 10, 10}, {[][]int64{{0, 0}, {9, 9}}, 9, 9, 0}, {[][]int64{{0, 9}, {0, 9}}, 9, 9, 9},
		// A row ends where the next one begins, but these places are no neighbours.
		{[][]int64{{0, 5, 10}, {0, 5, 10}}, 5, 10, 10},
		// What is inside counts for steps and mirrors, but not for the edge.
		{[][]int64{{40, 40, 40}, {40, 100, 40}, {40, 40, 40}}, 60, 0, 0}, {[][]int64{{40, 40, 40}, {40, 10, 40}, {40, 40, 40}}, 30, 0, 0},
		{[][]int64{{4, 4, 4, 4}, {4, 9, 7, 4}, {4, 4, 4, 4}}, 5, 0, 2}, {[][]int64{{4, 4, 4, 4}, {4, 7, 9, 4}, {4, 4, 4, 4}}, 5, 0, 2}, {[][]int64{{4, 4, 4}, {4, 0, 4}, {4, 9, 4}, {4, 4, 5}}, 9, 1, 1},
		{[][]int64{{1, 2, 3, 2, 1}, {5, 6, 9, 6, 5}, {1, 2, 0, 2, 1}}, 9, 5, 0}, {[][]int64{{1, 2, 3, 2, 1}, {5, 6, 9, 7, 5}}, 6, 8, 1},
		// The row or the column in the middle mirrors itself; what is beside it does not, or the other way round.
		{[][]int64{{0, 5, 9}, {4, 7, 4}, {0, 5, 9}}, 5, 9, 9}, {[][]int64{{4, 7, 4}, {0, 5, 9}, {4, 7, 4}}, 5, 9, 9}, {[][]int64{{4, 0, 4}, {4, 1000, 4}, {4, 7, 4}}, 1000, 7, 0}, {[][]int64{{4, 0, 5}, {4, 1000, 4}, {4, 7, 4}}, 1000, 7, 1},
		// Below one another there is no mirror.
		{[][]int64{{0, 0, 0}, {500, 0, 500}, {1000, 1000, 1000}}, 1000, 1000, 0}, {[][]int64{{3, 3}, {7, 7}, {1, 1}}, 6, 6, 0},
		{withHeight(evenGrid(10, 10, 0), 9, 9, 1000), 1000, 1000, 1000}, {withHeight(evenGrid(10, 10, 0), 4, 5, 1000), 1000, 0, 1000}, {evenGrid(10, 10, 1000), 0, 0, 0},
	} {
		want := shapeOf(c.grid)
		same(t, fmt.Sprintf("what is wanted of %v", c.grid), []int64{want.steepest, want.channel, want.mirror}, []int64{c.steepest, c.channel, c.mirror})
		checkShape(t, c.grid, want)
	}
}

func TestPromise8GridsThatMirrorThemselves(t *testing.T) {
	random := rand.New(rand.NewSource(92))
	for range 1000 {
		grid := anyGrid(random)
		for _, row := range grid {
			for left := range len(row) / 2 {
				row[len(row)-1-left] = row[left]
			}
		}
		gap, code := impl.MirrorGap(grid)
		same(t, fmt.Sprintf("MirrorGap of %v", grid), []int64{gap, code}, []int64{0, impl.OK})
		row, column := random.Intn(len(grid)), random.Intn(len(grid[0]))
		height := random.Int63n(1001)
		changed := withHeight(grid, row, column, height)
		want := max(height-grid[row][column], grid[row][column]-height)
		if 2*column+1 == len(grid[0]) {
			want = 0 // The column in the middle mirrors itself.
		}
		gap, code = impl.MirrorGap(changed)
		same(t, fmt.Sprintf("MirrorGap of %v", changed), []int64{gap, code}, []int64{want, impl.OK})
	}
}
