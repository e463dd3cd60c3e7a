package tests

import (
	"fmt"
	"math/rand"
	"testing"

	"loop.example/g01061/impl"
)

func checkPits(t *testing.T, grid [][]int64, want [][]int64) {
	t.Helper()
	pits, code := impl.PitsOf(grid)
	same(t, fmt.Sprintf("PitsOf %v", grid), []any{fmt.Sprint(pits), code}, []any{fmt.Sprint(want), int64(impl.OK)})
}

func TestPromise8PitsTellTheirValue(t *testing.T) {
	for _, c := range []struct{ grid, pits [][]int64 }{
		// A place without neighbours is none.
		{[][]int64{{0}}, nil}, {[][]int64{{1000}}, nil},
		{[][]int64{{0, 1}}, [][]int64{{0, 0}}}, {[][]int64{{1, 0}}, [][]int64{{0, 1}}}, {[][]int64{{0, 0}}, nil}, {[][]int64{{0}, {1}}, [][]int64{{0, 0}}}, {[][]int64{{1}, {0}}, [][]int64{{1, 0}}}, {[][]int64{{1}, {1}}, nil},
		{[][]int64{{5, 7, 1}}, [][]int64{{0, 0}, {0, 2}}}, {[][]int64{{5}, {7}, {1}}, [][]int64{{0, 0}, {2, 0}}}, {[][]int64{{3, 0, 0, 3}}, nil}, {[][]int64{{3, 1, 0, 3}}, [][]int64{{0, 2}}}, {[][]int64{{3, 0, 3}}, [][]int64{{0, 1}}},
		{[][]int64{{0, 9}, {9, 0}}, [][]int64{{0, 0}, {1, 1}}}, {[][]int64{{9, 0}, {0, 9}}, [][]int64{{0, 1}, {1, 0}}}, {[][]int64{{0, 9}, {0, 9}}, nil},
		{[][]int64{{40, 40, 40}, {40, 10, 40}, {40, 40, 40}}, [][]int64{{1, 1}}}, {[][]int64{{40, 40, 40}, {40, 100, 40}, {40, 40, 40}}, nil},
		// One neighbour that is as high is enough, on each side; corners do not matter.
		{[][]int64{{40, 10, 40}, {40, 10, 40}, {40, 40, 40}}, nil}, {[][]int64{{40, 40, 40}, {10, 10, 40}, {40, 40, 40}}, nil},
		{[][]int64{{40, 40, 40}, {40, 10, 10}, {40, 40, 40}}, nil}, {[][]int64{{40, 40, 40}, {40, 10, 40}, {40, 10, 40}}, nil},
		{[][]int64{{10, 40, 10}, {40, 10, 40}, {10, 40, 10}}, [][]int64{{0, 0}, {0, 2}, {1, 1}, {2, 0}, {2, 2}}},
		{[][]int64{{0, 40, 0}, {40, 10, 40}, {0, 40, 0}}, [][]int64{{0, 0}, {0, 2}, {1, 1}, {2, 0}, {2, 2}}},
		// One lower neighbour is enough as well.
		{[][]int64{{40, 9, 40}, {40, 10, 40}, {40, 40, 40}}, [][]int64{{0, 1}}}, {[][]int64{{40, 40, 40}, {9, 10, 40}, {40, 40, 40}}, [][]int64{{1, 0}}},
		{[][]int64{{40, 40, 40}, {40, 10, 9}, {40, 40, 40}}, [][]int64{{1, 2}}}, {[][]int64{{40, 40, 40}, {40, 10, 40}, {40, 9, 40}}, [][]int64{{2, 1}}},
		// At the end of a row, the beginning of the next one is no neighbour.
		{[][]int64{{9, 9, 3}, {2, 9, 9}}, [][]int64{{0, 2}, {1, 0}}}, {[][]int64{{2, 9, 9}, {9, 9, 3}}, [][]int64{{0, 0}, {1, 2}}},
		{withHeight(evenGrid(10, 10, 1000), 9, 9, 999), [][]int64{{9, 9}}}, {withHeight(evenGrid(10, 10, 1), 4, 7, 0), [][]int64{{4, 7}}}, {evenGrid(10, 10, 0), nil}, {evenGrid(10, 10, 1000), nil},
	} {
		checkPits(t, c.grid, c.pits)
	}
}

func TestPromise8ManyPits(t *testing.T) {
	for rows := range 10 {
		for columns := range 10 {
			for parity := range 2 {
				grid, pits := evenGrid(rows+1, columns+1, 1000), [][]int64{}
				for row := range grid {
					for column := range grid[row] {
						if (row+column)%2 == parity {
							grid[row][column] = int64(row*10 + column)
							pits = append(pits, []int64{int64(row), int64(column)})
						}
					}
				}
				if rows+columns == 0 {
					pits = nil
				}
				checkPits(t, grid, pits)
			}
		}
	}
}

func TestPromise8PitsWithEqualNeighbours(t *testing.T) {
	random := rand.New(rand.NewSource(93))
	for range 2000 {
		grid := anyGrid(random)
		spots := spotsOf(grid)
		s := spots[random.Intn(len(spots))]
		near := s.besides(spots)
		if len(near) == 0 {
			continue
		}
		for _, o := range near {
			grid[o.row][o.column] = 600 + random.Int63n(400)
		}
		grid[s.row][s.column] = 599
		checkPits(t, grid, pitsIn(grid))
		for _, o := range near {
			level := withHeight(grid, o.row, o.column, 599)
			checkPits(t, level, pitsIn(level))
			lower := withHeight(grid, o.row, o.column, 598)
			checkPits(t, lower, pitsIn(lower))
		}
	}
}

func TestPromise8WaterTellsItsWay(t *testing.T) {
	for _, c := range []struct {
		grid  [][]int64
		falls bool
	}{
		{[][]int64{{5}}, true}, {[][]int64{{0, 5, 0}}, true}, {[][]int64{{5}, {0}, {5}}, true}, {[][]int64{{5, 0}, {0, 5}}, true}, {evenGrid(2, 10, 3), true}, {evenGrid(10, 2, 3), true},
		{[][]int64{{9, 9, 9}, {9, 0, 9}}, true}, {[][]int64{{9, 9}, {9, 0}, {9, 9}}, true},
		{[][]int64{{40, 40, 40}, {40, 100, 40}, {40, 40, 40}}, true}, {[][]int64{{40, 40, 40}, {40, 10, 40}, {40, 40, 40}}, false},
		// Between places that are as high, water does not run.
		{evenGrid(3, 3, 40), false}, {evenGrid(3, 3, 0), false}, {evenGrid(3, 3, 1000), false}, {withHeight(evenGrid(3, 3, 40), 1, 1, 41), true},
		{[][]int64{{9, 9, 9, 9}, {9, 9, 5, 0}, {9, 9, 9, 9}}, true}, {[][]int64{{9, 9, 9, 9}, {9, 5, 5, 0}, {9, 9, 9, 9}}, false}, {[][]int64{{9, 9, 9, 9}, {9, 4, 5, 0}, {9, 9, 9, 9}}, false},
		// One side that is lower is enough; corners are not.
		{[][]int64{{9, 4, 9}, {9, 5, 9}, {9, 9, 9}}, true}, {[][]int64{{9, 9, 9}, {4, 5, 9}, {9, 9, 9}}, true}, {[][]int64{{9, 9, 9}, {9, 5, 4}, {9, 9, 9}}, true}, {[][]int64{{9, 9, 9}, {9, 5, 9}, {9, 4, 9}}, true},
		{[][]int64{{4, 9, 4}, {9, 5, 9}, {4, 9, 4}}, false}, {[][]int64{{9, 5, 9}, {5, 5, 5}, {9, 5, 9}}, false},
		// A hill with two tops, and two hills with a pit between them.
		{[][]int64{{0, 0, 0, 0, 0}, {0, 9, 5, 9, 0}, {0, 0, 0, 0, 0}}, true}, {[][]int64{{6, 6, 6, 6, 6}, {6, 9, 5, 9, 6}, {6, 6, 6, 6, 6}}, false},
		// A flat top, whose places in the middle have no lower neighbour.
		{[][]int64{{0, 0, 0, 0}, {0, 7, 7, 0}, {0, 7, 7, 0}, {0, 0, 0, 0}}, true},
		{[][]int64{{0, 0, 0, 0, 0}, {0, 7, 7, 7, 0}, {0, 7, 7, 7, 0}, {0, 7, 7, 7, 0}, {0, 0, 0, 0, 0}}, false}, {[][]int64{{0, 0, 0, 0, 0}, {0, 7, 7, 7, 0}, {0, 7, 8, 7, 0}, {0, 7, 7, 7, 0}, {0, 0, 0, 0, 0}}, true},
	} {
		same(t, fmt.Sprintf("FallsToEdge(%v)", c.grid), impl.FallsToEdge(c.grid), c.falls)
		same(t, fmt.Sprintf("FallsToEdge of the columns of %v", c.grid), impl.FallsToEdge(turned(c.grid)), c.falls)
	}
}

// windingGrid has a way that winds through the inside between high walls, and falls from its far end
// to the edge. It returns the places of the way from the edge on.
func windingGrid() (grid [][]int64, way [][2]int) {
	grid = evenGrid(10, 10, 1000)
	for row := 1; row < 9; row += 2 {
		for k := 1; k < 9; k++ {
			column := k
			if row%4 == 3 {
				column = 9 - k
			}
			way = append(way, [2]int{row, column})
		}
		if row < 7 {
			way = append(way, [2]int{row + 1, way[len(way)-1][1]})
		}
	}
	way = append([][2]int{{1, 0}}, way...)
	for k, p := range way {
		grid[p[0]][p[1]] = int64(10 * k)
	}
	return grid, way
}

func TestPromise8WaterRunsALongWay(t *testing.T) {
	grid, way := windingGrid()
	same(t, "falls by a long way, and by the definition", []bool{impl.FallsToEdge(grid), fallsIn(grid)}, []bool{true, true})
	for k := 1; k < len(way); k++ {
		dammed := withHeight(grid, way[k][0], way[k][1], int64(10*k-10))
		same(t, fmt.Sprintf("a level place %d of the way", k), []bool{impl.FallsToEdge(dammed), fallsIn(dammed)}, []bool{false, false})
		dammed[way[k][0]][way[k][1]]++
		same(t, fmt.Sprintf("a place %d that just falls", k), []bool{impl.FallsToEdge(dammed), fallsIn(dammed)}, []bool{true, true})
	}
}

func TestPromise8WaterOfRandomHills(t *testing.T) {
	random := rand.New(rand.NewSource(94))
	falls := 0
	for range 2000 {
		grid := randomGrid(random, 3+random.Intn(8), 3+random.Intn(8), 0, 3)
		// The more steps from the edge, the higher, but not always.
		for _, s := range spotsOf(grid) {
			steps := min(s.row, s.column, len(grid)-1-s.row, len(grid[0])-1-s.column)
			grid[s.row][s.column] += int64(2 * steps)
		}
		want := fallsIn(grid)
		same(t, fmt.Sprintf("FallsToEdge(%v)", grid), impl.FallsToEdge(grid), want)
		if want {
			falls++
		}
	}
	if falls < 100 || falls > 1900 {
		t.Errorf("water runs off %d of 2000 hills", falls)
	}
}
