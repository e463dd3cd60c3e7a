package tests

import (
	"fmt"
	"math"
	"math/rand"
	"slices"
	"testing"

	"loop.example/g01061/impl"
)

// smoothIn returns the heights that a grid should have behind smoothing.
func smoothIn(grid [][]int64) [][]int64 {
	smooth := cloneGrid(grid)
	for _, s := range spotsOf(grid) {
		if s.isEdge {
			continue
		}
		sum := 4 * s.height
		for _, o := range s.besides(spotsOf(grid)) {
			sum += o.height
		}
		smooth[s.row][s.column] = roundedOf(sum, 8)
	}
	return smooth
}

func checkSmooth(t *testing.T, grid, want [][]int64) {
	t.Helper()
	smooth, code := impl.SmoothArch(grid)
	same(t, fmt.Sprintf("SmoothArch(%v)", grid), []any{smooth, code}, []any{want, int64(impl.OK)})
}

// ends returns the least and the greatest height of a grid.
func ends(grid [][]int64) (int64, int64) {
	all := slices.Concat(grid...)
	return slices.Min(all), slices.Max(all)
}

func TestPromise8SmoothingStaysInTheRange(t *testing.T) {
	random := rand.New(rand.NewSource(95))
	for range 4000 {
		grid := anyGrid(random)
		checkSmooth(t, grid, smoothIn(grid))
		smooth, _ := impl.SmoothArch(grid)
		least, greatest := ends(grid)
		smoothLeast, smoothGreatest := ends(smooth)
		if smoothLeast < least || smoothGreatest > greatest || !impl.ValidArch(smooth) {
			t.Errorf("SmoothArch(%v) leaves the range: %v", grid, smooth)
		}
		for _, s := range spotsOf(smooth) {
			if s.isEdge {
				same(t, fmt.Sprintf("height at the edge of %v", smooth), s.height, grid[s.row][s.column])
			}
		}
	}
}

func TestPromise8SmoothArchTellsItsValue(t *testing.T) {
	hill := func(top, around int64) [][]int64 { return withHeight(evenGrid(3, 3, around), 1, 1, top) }
	for _, c := range []struct{ grid, want [][]int64 }{
		{[][]int64{{0, 0, 0}, {0, 90, 0}, {0, 0, 0}}, [][]int64{{0, 0, 0}, {0, 45, 0}, {0, 0, 0}}}, {hill(100, 40), hill(70, 40)}, {hill(10, 40), hill(25, 40)},
		// The half is rounded away from 0.
		{hill(1, 0), hill(1, 0)}, {hill(0, 1), hill(1, 1)}, {hill(3, 0), hill(2, 0)}, {hill(3, 4), hill(4, 4)}, {hill(1000, 0), hill(500, 0)}, {hill(0, 1000), hill(500, 1000)}, {hill(999, 1000), hill(1000, 1000)}, {hill(1000, 999), hill(1000, 999)},
		{hill(0, 0), hill(0, 0)}, {hill(1000, 1000), hill(1000, 1000)}, {hill(7, 7), hill(7, 7)},
		// Each neighbour counts once, and the corners do not.
		{[][]int64{{0, 8, 0}, {0, 0, 0}, {0, 0, 0}}, [][]int64{{0, 8, 0}, {0, 1, 0}, {0, 0, 0}}}, {[][]int64{{0, 0, 0}, {8, 0, 0}, {0, 0, 0}}, [][]int64{{0, 0, 0}, {8, 1, 0}, {0, 0, 0}}},
		{[][]int64{{0, 0, 0}, {0, 0, 8}, {0, 0, 0}}, [][]int64{{0, 0, 0}, {0, 1, 8}, {0, 0, 0}}}, {[][]int64{{0, 0, 0}, {0, 0, 0}, {0, 8, 0}}, [][]int64{{0, 0, 0}, {0, 1, 0}, {0, 8, 0}}},
		{[][]int64{{800, 0, 800}, {0, 0, 0}, {800, 0, 800}}, [][]int64{{800, 0, 800}, {0, 0, 0}, {800, 0, 800}}}, {[][]int64{{0, 8, 0}, {16, 0, 32}, {0, 64, 0}}, [][]int64{{0, 8, 0}, {16, 15, 32}, {0, 64, 0}}},
		{[][]int64{{0, 3, 0}, {0, 0, 0}, {0, 0, 0}}, [][]int64{{0, 3, 0}, {0, 0, 0}, {0, 0, 0}}}, {[][]int64{{0, 4, 0}, {0, 0, 0}, {0, 0, 0}}, [][]int64{{0, 4, 0}, {0, 1, 0}, {0, 0, 0}}},
		// A height that is smoothed counts as it was for the next one.
		{[][]int64{{0, 0, 0, 0}, {0, 80, 0, 0}, {0, 0, 0, 0}}, [][]int64{{0, 0, 0, 0}, {0, 40, 10, 0}, {0, 0, 0, 0}}}, {[][]int64{{0, 0, 0, 0}, {0, 0, 80, 0}, {0, 0, 0, 0}}, [][]int64{{0, 0, 0, 0}, {0, 10, 40, 0}, {0, 0, 0, 0}}},
		{[][]int64{{0, 0, 0}, {0, 80, 0}, {0, 0, 0}, {0, 0, 0}}, [][]int64{{0, 0, 0}, {0, 40, 0}, {0, 10, 0}, {0, 0, 0}}},
		// Nothing is inside.
		{[][]int64{{5}}, [][]int64{{5}}}, {[][]int64{{0, 1000, 0}}, [][]int64{{0, 1000, 0}}}, {[][]int64{{0}, {1000}, {0}}, [][]int64{{0}, {1000}, {0}}}, {[][]int64{{0, 9}, {9, 0}}, [][]int64{{0, 9}, {9, 0}}},
		{[][]int64{{0, 9, 0}, {9, 0, 9}}, [][]int64{{0, 9, 0}, {9, 0, 9}}}, {[][]int64{{0, 9}, {9, 0}, {0, 9}}, [][]int64{{0, 9}, {9, 0}, {0, 9}}},
		{evenGrid(10, 10, 1000), evenGrid(10, 10, 1000)}, {evenGrid(10, 10, 0), evenGrid(10, 10, 0)},
	} {
		same(t, fmt.Sprintf("what is wanted of %v", c.grid), smoothIn(c.grid), c.want)
		checkSmooth(t, c.grid, c.want)
		checkSmooth(t, turned(c.grid), turned(c.want))
	}
}

func checkWood(t *testing.T, grid [][]int64, height, want, code int64) {
	t.Helper()
	wood, got := impl.WoodOver(grid, height)
	same(t, fmt.Sprintf("WoodOver(%v, %d)", grid, height), []int64{wood, got}, []int64{want, code})
}

func TestPromise8WoodOver(t *testing.T) {
	random := rand.New(rand.NewSource(96))
	for range 2000 {
		grid := anyGrid(random)
		_, greatest := ends(grid)
		for _, height := range []int64{0, 1, greatest - 1, greatest, greatest + 1, 1000, random.Int63n(1001)} {
			if height < 0 || height > 1000 {
				continue
			}
			want := int64(0)
			for _, s := range spotsOf(grid) {
				if s.height > height {
					want += s.height - height
				}
			}
			checkWood(t, grid, height, want, impl.OK)
		}
	}
}

func TestPromise8WoodOverTellsItsValue(t *testing.T) {
	grid := [][]int64{{40, 40, 40}, {40, 100, 40}, {40, 40, 40}}
	for _, c := range [][2]int64{{0, 420}, {1, 411}, {39, 69}, {40, 60}, {41, 59}, {50, 50}, {99, 1}, {100, 0}, {101, 0}, {1000, 0}} {
		checkWood(t, grid, c[0], c[1], impl.OK)
	}
	checkWood(t, evenGrid(10, 10, 1000), 0, 100000, impl.OK)
	checkWood(t, evenGrid(10, 10, 1000), 999, 100, impl.OK)
	checkWood(t, evenGrid(10, 10, 1000), 1000, 0, impl.OK)
	checkWood(t, evenGrid(10, 10, 0), 0, 0, impl.OK)
	checkWood(t, [][]int64{{5}}, 4, 1, impl.OK)
	checkWood(t, [][]int64{{1, 9, 5}}, 5, 4, impl.OK)
	for _, height := range beyondRise {
		checkWood(t, grid, height, 0, impl.ErrRange)
		checkWood(t, [][]int64{{0}}, height, 0, impl.ErrRange)
		checkWood(t, evenGrid(10, 10, 1000), height, 0, impl.ErrRange)
	}
}

func checkThin(t *testing.T, outer, inner [][]int64, least int64, want [][]int64, code int64) {
	t.Helper()
	thin, got := impl.ThinPlaces(outer, inner, least)
	same(t, fmt.Sprintf("ThinPlaces(%v, %v, %d)", outer, inner, least), []any{fmt.Sprint(thin), got}, []any{fmt.Sprint(want), code})
}

func TestPromise8ThinPlaces(t *testing.T) {
	random := rand.New(rand.NewSource(97))
	for range 3000 {
		outer := anyGrid(random)
		inner := randomGrid(random, len(outer), len(outer[0]), random.Int63n(500), 1+random.Int63n(501))
		least := random.Int63n(1001)
		if random.Intn(2) == 0 {
			// A thickness that is just reached somewhere.
			least = max(0, outer[0][0]-inner[0][0])
		}
		want := [][]int64{}
		for _, s := range spotsOf(outer) {
			if s.height < inner[s.row][s.column]+least {
				want = append(want, []int64{int64(s.row), int64(s.column)})
			}
		}
		checkThin(t, outer, inner, least, want, impl.OK)
	}
}

// allPlaces returns the row and the column of each place of a grid.
func allPlaces(grid [][]int64) [][]int64 {
	places := [][]int64{}
	for _, s := range spotsOf(grid) {
		places = append(places, []int64{int64(s.row), int64(s.column)})
	}
	return places
}

func TestPromise8ThinPlacesTellTheirValue(t *testing.T) {
	grid := [][]int64{{40, 40, 40}, {40, 100, 40}, {40, 40, 40}}
	pit := [][]int64{{40, 40, 40}, {40, 10, 40}, {40, 40, 40}}
	edge := slices.Delete(allPlaces(grid), 4, 5)
	checkThin(t, grid, pit, 0, nil, impl.OK)
	checkThin(t, grid, pit, 1, edge, impl.OK)
	checkThin(t, grid, pit, 90, edge, impl.OK)
	checkThin(t, grid, pit, 91, allPlaces(grid), impl.OK)
	checkThin(t, grid, pit, 1000, allPlaces(grid), impl.OK)
	// The inner surface may be higher than the outer one.
	checkThin(t, pit, grid, 0, [][]int64{{1, 1}}, impl.OK)
	checkThin(t, evenGrid(10, 10, 0), evenGrid(10, 10, 1000), 0, allPlaces(evenGrid(10, 10, 0)), impl.OK)
	checkThin(t, evenGrid(10, 10, 1000), evenGrid(10, 10, 0), 1000, nil, impl.OK)
	checkThin(t, evenGrid(10, 10, 1000), evenGrid(10, 10, 1), 1000, allPlaces(evenGrid(10, 10, 0)), impl.OK)
	checkThin(t, evenGrid(10, 10, 999), evenGrid(10, 10, 0), 1000, allPlaces(evenGrid(10, 10, 0)), impl.OK)
	checkThin(t, [][]int64{{5}}, [][]int64{{2}}, 3, nil, impl.OK)
	checkThin(t, [][]int64{{5}}, [][]int64{{2}}, 4, [][]int64{{0, 0}}, impl.OK)
	checkThin(t, [][]int64{{9, 9, 9}, {9, 9, 9}}, [][]int64{{5, 4, 6}, {3, 5, 7}}, 5, [][]int64{{0, 0}, {0, 2}, {1, 1}, {1, 2}}, impl.OK)
	checkThin(t, grid, grid, 0, nil, impl.OK)
	checkThin(t, grid, grid, 1, allPlaces(grid), impl.OK)
}

func TestPromise8ThinPlacesOfDifferentShapes(t *testing.T) {
	sizes := [][2]int{{1, 1}, {1, 2}, {2, 1}, {2, 2}, {2, 3}, {3, 2}, {3, 3}, {1, 4}, {4, 1}, {1, 10}, {10, 1}, {9, 10}, {10, 9}, {10, 10}, {2, 5}, {5, 2}}
	for _, a := range sizes {
		for _, b := range sizes {
			outer, inner := evenGrid(a[0], a[1], 500), evenGrid(b[0], b[1], 200)
			for _, least := range []int64{0, 300, 301, 1000} {
				switch {
				case a != b:
					checkThin(t, outer, inner, least, nil, impl.ErrOrder)
				case least <= 300:
					checkThin(t, outer, inner, least, nil, impl.OK)
				default:
					checkThin(t, outer, inner, least, allPlaces(outer), impl.OK)
				}
			}
			for _, least := range beyondRise {
				checkThin(t, outer, inner, least, nil, impl.ErrRange)
			}
		}
	}
}

func checkHollow(t *testing.T, outer [][]int64, thick int64, want [][]int64, code int64) {
	t.Helper()
	hollow, got := impl.HollowFor(outer, thick)
	same(t, fmt.Sprintf("HollowFor(%v, %d)", outer, thick), []any{fmt.Sprint(hollow), got}, []any{fmt.Sprint(want), code})
}

func TestPromise8HollowsHaveTheThickness(t *testing.T) {
	random := rand.New(rand.NewSource(98))
	for range 3000 {
		outer := anyGrid(random)
		least, _ := ends(outer)
		for _, thick := range []int64{0, least / 2, least - 1, least, least + 1, 1000, random.Int63n(1001)} {
			switch {
			case thick < 0 || thick > 1000:
				checkHollow(t, outer, thick, nil, impl.ErrRange)
				continue
			case thick > least:
				checkHollow(t, outer, thick, nil, impl.ErrState)
				continue
			}
			want := cloneGrid(outer)
			for _, s := range spotsOf(outer) {
				want[s.row][s.column] = s.height - thick
			}
			checkHollow(t, outer, thick, want, impl.OK)
			hollow, _ := impl.HollowFor(outer, thick)
			same(t, fmt.Sprintf("ValidArch of %v", hollow), impl.ValidArch(hollow), true)
			checkThin(t, outer, hollow, thick, nil, impl.OK)
			if thick < 1000 {
				checkThin(t, outer, hollow, thick+1, allPlaces(outer), impl.OK)
			}
		}
	}
}

func TestPromise8HollowForTellsItsValue(t *testing.T) {
	grid := [][]int64{{40, 40, 40}, {40, 100, 40}, {40, 40, 40}}
	checkHollow(t, grid, 0, grid, impl.OK)
	checkHollow(t, grid, 30, [][]int64{{10, 10, 10}, {10, 70, 10}, {10, 10, 10}}, impl.OK)
	checkHollow(t, grid, 40, [][]int64{{0, 0, 0}, {0, 60, 0}, {0, 0, 0}}, impl.OK)
	checkHollow(t, grid, 41, nil, impl.ErrState)
	checkHollow(t, grid, 1000, nil, impl.ErrState)
	checkHollow(t, [][]int64{{0}}, 0, [][]int64{{0}}, impl.OK)
	checkHollow(t, [][]int64{{0}}, 1, nil, impl.ErrState)
	checkHollow(t, evenGrid(10, 10, 1000), 1000, evenGrid(10, 10, 0), impl.OK)
	checkHollow(t, evenGrid(10, 10, 999), 1000, nil, impl.ErrState)
	checkHollow(t, evenGrid(10, 10, 1000), 0, evenGrid(10, 10, 1000), impl.OK)
	for _, thick := range beyondRise {
		checkHollow(t, grid, thick, nil, impl.ErrRange)
		checkHollow(t, [][]int64{{0}}, thick, nil, impl.ErrRange)
		checkHollow(t, evenGrid(10, 10, 1000), thick, nil, impl.ErrRange)
	}
}

func TestPromise8HollowsThatJustStayAbove(t *testing.T) {
	// One place alone, wherever it lies, is too thin.
	for _, size := range [][2]int{{1, 1}, {1, 10}, {10, 1}, {3, 3}, {10, 10}} {
		grid := evenGrid(size[0], size[1], 800)
		for _, s := range spotsOf(grid) {
			low := withHeight(grid, s.row, s.column, 30)
			checkHollow(t, low, 30, withHeight(evenGrid(size[0], size[1], 770), s.row, s.column, 0), impl.OK)
			checkHollow(t, low, 31, nil, impl.ErrState)
		}
	}
}

func TestPromise8ArchingOrderOfErrors(t *testing.T) {
	valid, wide, wrong := evenGrid(3, 3, 40), evenGrid(3, 4, 40), withHeight(evenGrid(3, 3, 40), 2, 2, 1001)
	for _, c := range []struct {
		outer, inner [][]int64
		least, code  int64
	}{
		{wrong, valid, 30, impl.ErrInvalid}, {valid, wrong, 30, impl.ErrInvalid}, {wrong, wrong, -1, impl.ErrInvalid}, {wrong, wide, 1001, impl.ErrInvalid}, {wide, wrong, math.MinInt64, impl.ErrInvalid},
		{nil, valid, -1, impl.ErrInvalid}, {valid, nil, math.MaxInt64, impl.ErrInvalid}, {valid, valid[:2], 1001, impl.ErrRange}, {valid, wide, -1, impl.ErrRange}, {wide, valid, math.MinInt64, impl.ErrRange},
		{valid, valid, math.MaxInt64, impl.ErrRange}, {valid, wide, 0, impl.ErrOrder}, {wide, valid, 1000, impl.ErrOrder}, {valid, valid[:2], 0, impl.ErrOrder}, {valid[1:], valid, 0, impl.ErrOrder}, {valid, valid, 0, impl.OK},
	} {
		checkThin(t, c.outer, c.inner, c.least, nil, c.code)
	}
	for _, c := range []struct {
		grid        [][]int64
		thick, code int64
	}{
		{wrong, -1, impl.ErrInvalid}, {wrong, 41, impl.ErrInvalid}, {wrong, 0, impl.ErrInvalid}, {nil, 1001, impl.ErrInvalid}, {valid, -1, impl.ErrRange}, {valid, 1001, impl.ErrRange}, {valid, 41, impl.ErrState}, {valid, 1000, impl.ErrState},
	} {
		checkHollow(t, c.grid, c.thick, nil, c.code)
	}
}
