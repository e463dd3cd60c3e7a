package tests

import (
	"fmt"
	"math"
	"math/rand"
	"slices"
	"testing"

	"loop.example/g01061/impl"
)

func checkAfterLength(t *testing.T, stop, share, want, code int64) {
	t.Helper()
	length, got := impl.AfterLength(stop, share)
	same(t, fmt.Sprintf("AfterLength(%d, %d)", stop, share), []int64{length, got}, []int64{want, code})
}

func TestPromise13AfterLength(t *testing.T) {
	for _, c := range [][3]int64{
		{3280, 167, 548}, {3280, 1000, 3280}, {100, 1, 0}, {100, 1000, 100}, {10000, 1, 10}, {10000, 1000, 10000},
		// 0.4, 0.499, 0.5, 0.501, 1.499, 1.5, 2.5, 2.499, 0.5 and 9989.5.
		{100, 4, 0}, {499, 1, 0}, {500, 1, 1}, {501, 1, 1}, {1499, 1, 1}, {1500, 1, 2}, {2500, 1, 3}, {2499, 1, 2}, {100, 5, 1}, {9500, 999, 9491}, {10000, 999, 9990},
	} {
		checkAfterLength(t, c[0], c[1], c[2], impl.OK)
	}
	random := rand.New(rand.NewSource(178))
	for range 20000 {
		stop, share := 100+random.Int63n(9901), 1+random.Int63n(1000)
		checkAfterLength(t, stop, share, quotientOf(stop, share, 1000), impl.OK)
	}
	for _, stop := range outside(100, 10000) {
		for _, share := range []int64{0, 1, 167, 1000, 1001, stop} {
			checkAfterLength(t, stop, share, 0, impl.ErrRange)
		}
	}
	for _, share := range outside(1, 1000) {
		for _, stop := range []int64{99, 100, 3280, 10000, 10001, share} {
			checkAfterLength(t, stop, share, 0, impl.ErrRange)
		}
	}
}

func checkPostRing(t *testing.T, distance, wall, want, code int64) {
	t.Helper()
	ring, got := impl.PostRing(distance, wall)
	same(t, fmt.Sprintf("PostRing(%d, %d)", distance, wall), []int64{ring, got}, []int64{want, code})
}

func TestPromise13PostRing(t *testing.T) {
	for distance := range int64(501) {
		for wall := int64(1); wall <= 100; wall++ {
			want := int64(1000)
			for range distance {
				want -= 4
			}
			checkPostRing(t, distance, wall, max(want-wall*wall, 0), impl.OK)
		}
	}
	for _, c := range [][3]int64{
		{30, 10, 780}, {0, 1, 999}, {1, 1, 995}, {0, 31, 39}, {0, 32, 0}, {0, 100, 0}, {500, 1, 0}, {500, 100, 0},
		// Just 0, just above it and just below it.
		{249, 2, 0}, {249, 1, 3}, {250, 1, 0}, {225, 10, 0}, {224, 10, 4}, {226, 10, 0}, {9, 31, 3}, {10, 31, 0},
	} {
		checkPostRing(t, c[0], c[1], c[2], impl.OK)
	}
	for _, distance := range outside(0, 500) {
		for _, wall := range []int64{0, 1, 10, 100, 101, distance} {
			checkPostRing(t, distance, wall, 0, impl.ErrRange)
		}
	}
	for _, wall := range outside(1, 100) {
		for _, distance := range []int64{-1, 0, 30, 500, 501, wall} {
			checkPostRing(t, distance, wall, 0, impl.ErrRange)
		}
	}
}

// checkBestPost checks that a place that is told rings most, and is the first one that does.
func checkBestPost(t *testing.T, rings [][]int64, row, column int64) {
	t.Helper()
	name := "BestPost of " + fmt.Sprint(rings)
	gotRow, gotColumn, code := impl.BestPost(rings)
	same(t, name, []int64{gotRow, gotColumn, code}, []int64{row, column, impl.OK})
	for j, some := range rings {
		for k, ring := range some {
			isAhead := int64(j) < row || int64(j) == row && int64(k) < column
			if ring > rings[row][column] || isAhead && ring == rings[row][column] {
				t.Errorf("%s: %d in row %d and column %d", name, ring, j, k)
			}
		}
	}
}

func checkNoPost(t *testing.T, rings [][]int64) {
	t.Helper()
	row, column, code := impl.BestPost(rings)
	same(t, "BestPost of "+shown(rings), []int64{row, column, code}, []int64{0, 0, impl.ErrRange})
}

// ringsOf returns random rings up to most, in rows of random lengths.
func ringsOf(random *rand.Rand, most int64) [][]int64 {
	rings := make([][]int64, 1+random.Intn(8))
	for j := range rings {
		for range 1 + random.Intn(8) {
			rings[j] = append(rings[j], random.Int63n(most+1))
		}
	}
	return rings
}

func TestPromise13BestPlaceRingsMost(t *testing.T) {
	random := rand.New(rand.NewSource(179))
	several := 0
	for round := range 5000 {
		rings := ringsOf(random, []int64{0, 1, 9, 1000}[round%4])
		row, column, many := -1, -1, 0
		for j, some := range rings {
			for k, ring := range some {
				switch {
				case row < 0 || ring > rings[row][column]:
					row, column, many = j, k, 1
				case ring == rings[row][column]:
					many++
				}
			}
		}
		if many > 1 {
			several++
		}
		checkBestPost(t, rings, int64(row), int64(column))
	}
	if several < 1000 {
		t.Errorf("too few tests with several places: %d", several)
	}
}

func TestPromise13BestPostTellsItsValue(t *testing.T) {
	for _, c := range []struct {
		rings       [][]int64
		row, column int64
	}{
		{[][]int64{{1, 5}, {7, 7}}, 1, 0}, {[][]int64{{7, 5}, {7, 7}}, 0, 0}, {[][]int64{{1, 7}, {7, 7}}, 0, 1}, {[][]int64{{1, 5}, {6, 7}}, 1, 1}, {[][]int64{{5, 1}, {1, 5}}, 0, 0}, {[][]int64{{1, 5}, {5, 1}}, 0, 1}, {[][]int64{{0, 0}, {0, 0}}, 0, 0}, {[][]int64{{1000}}, 0, 0}, {[][]int64{{0}}, 0, 0},
		{[][]int64{{1, 2, 3, 4, 5, 6, 7, 8}}, 0, 7}, {[][]int64{{1}, {2}, {3}, {4}, {5}, {6}, {7}, {8}}, 7, 0}, {[][]int64{{1000, 0}, {0, 1000}}, 0, 0}, {[][]int64{{999, 0}, {0, 1000}}, 1, 1},
		// Rows need not have the same length.
		{[][]int64{{1}, {1, 2}, {1, 2, 3}}, 2, 2}, {[][]int64{{3, 3, 3}, {4}, {1, 4}}, 1, 0}, {[][]int64{{1, 2, 3, 4, 5, 6, 7, 8}, {9}}, 1, 0}, {[][]int64{{9}, {1, 2, 3, 4, 5, 6, 7, 9}}, 0, 0},
		{slices.Repeat([][]int64{slices.Repeat([]int64{1000}, 8)}, 8), 0, 0}, {slices.Repeat([][]int64{make([]int64, 8)}, 8), 0, 0},
	} {
		checkBestPost(t, c.rings, c.row, c.column)
	}
	for at := range 64 {
		rings := make([][]int64, 8)
		for j := range rings {
			rings[j] = make([]int64, 8)
		}
		rings[at/8][at%8] = 1
		checkBestPost(t, rings, int64(at/8), int64(at%8))
	}
}

func TestPromise13RingsThatAreNotAsStated(t *testing.T) {
	good := []int64{1, 5}
	for _, rings := range [][][]int64{nil, {}, {nil}, {{}}, {good, {}}, {{}, good}, {good, nil, good}, {make([]int64, 9)}, {good, make([]int64, 9)}, {make([]int64, 1000)}, slices.Repeat([][]int64{good}, 9), slices.Repeat([][]int64{good}, 1000), slices.Repeat([][]int64{{}}, 8), slices.Repeat([][]int64{make([]int64, 8)}, 9)} {
		checkNoPost(t, rings)
	}
	for _, size := range [][2]int{{1, 1}, {2, 3}, {8, 8}} {
		for at := range size[0] * size[1] {
			for _, wrong := range []int64{math.MinInt64, math.MinInt64 + 1, -1000, -2, -1, 1001, 1002, 1 << 32, 1<<32 + 1, math.MaxInt64 - 1, math.MaxInt64} {
				rings := make([][]int64, size[0])
				for j := range rings {
					rings[j] = slices.Repeat([]int64{7}, size[1])
				}
				rings[at/size[1]][at%size[1]] = wrong
				checkNoPost(t, rings)
			}
		}
	}
}

func checkPostLength(t *testing.T, height, rise, run, cut, want, code int64) {
	t.Helper()
	length, got := impl.PostLength(height, rise, run, cut)
	same(t, fmt.Sprintf("PostLength(%d, %d, %d, %d)", height, rise, run, cut), []int64{length, got}, []int64{want, code})
}

func TestPromise13PostLength(t *testing.T) {
	for _, c := range [][6]int64{
		{520, 120, 60, 20, 507, 0}, {100, 0, 0, 0, 100, 0}, {1000, 500, 500, 0, 1250, 0}, {1000, 500, 500, 100, 1150, 0}, {1000, 0, 500, 100, 900, 0}, {1000, 500, 0, 100, 900, 0},
		// The lengths 1 and 0.
		{100, 0, 0, 99, 1, 0}, {100, 0, 0, 100, 0, 6}, {101, 0, 0, 100, 1, 0}, {100, 500, 1, 100, 1, 0}, {100, 499, 1, 100, 0, 6}, {100, 1, 500, 100, 1, 0}, {100, 1, 499, 100, 0, 6}, {100, 500, 0, 100, 0, 6}, {100, 25, 20, 100, 1, 0}, {100, 22, 22, 100, 0, 6},
		// 0.499, 0.5, 1.499, 1.5, 2.5 and 249.5.
		{520, 499, 1, 20, 500, 0}, {520, 500, 1, 20, 501, 0}, {520, 300, 5, 20, 502, 0}, {520, 500, 3, 20, 502, 0}, {520, 500, 5, 20, 503, 0}, {520, 499, 3, 20, 501, 0}, {520, 500, 499, 20, 750, 0}, {520, 499, 500, 0, 770, 0},
	} {
		checkPostLength(t, c[0], c[1], c[2], c[3], c[4], c[5])
	}
	random := rand.New(rand.NewSource(180))
	for range 20000 {
		height, rise, run, cut := 100+random.Int63n(901), random.Int63n(501), random.Int63n(501), random.Int63n(101)
		if length := height - cut + quotientOf(rise, run, 1000); length > 0 {
			checkPostLength(t, height, rise, run, cut, length, impl.OK)
		}
	}
}

func TestPromise13PostLengthRefuses(t *testing.T) {
	limits := [4][2]int64{{100, 1000}, {0, 500}, {0, 500}, {0, 100}}
	// The second one of these has the length 0, which is seen behind numbers that are not as stated.
	for _, told := range [][4]int64{{520, 120, 60, 20}, {100, 0, 0, 100}, {1000, 500, 500, 100}} {
		for field, limit := range limits {
			for _, wrong := range outside(limit[0], limit[1]) {
				c := told
				c[field] = wrong
				checkPostLength(t, c[0], c[1], c[2], c[3], 0, impl.ErrRange)
				for other := range c {
					c := c
					c[other] = wrong
					checkPostLength(t, c[0], c[1], c[2], c[3], 0, impl.ErrRange)
				}
			}
		}
	}
	checkPostLength(t, math.MaxInt64, math.MaxInt64, math.MaxInt64, math.MinInt64, 0, impl.ErrRange)
	checkPostLength(t, math.MinInt64, math.MinInt64, math.MinInt64, math.MaxInt64, 0, impl.ErrRange)
}
