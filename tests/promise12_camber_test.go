package tests

import (
	"fmt"
	"math"
	"math/big"
	"math/rand"
	"slices"
	"testing"

	"loop.example/g01061/impl"
)

func checkCamber(t *testing.T, heights []int64, place, depth, gap int64) {
	t.Helper()
	name := fmt.Sprintf(" of %d heights %s", len(heights), shown(heights))
	gotPlace, gotDepth, code := impl.CamberOf(heights)
	same(t, "CamberOf"+name, []int64{gotPlace, gotDepth, code}, []int64{place, depth, impl.OK})
	got, code := impl.CamberGap(heights)
	same(t, "CamberGap"+name, []int64{got, code}, []int64{gap, impl.OK})
}

// depthIn is the depth of a place as a fraction.
func depthIn(heights []int64, place int) *big.Rat {
	steps := int64(len(heights) - 1)
	depth := big.NewRat(heights[steps]-heights[0], steps)
	depth.Mul(depth, big.NewRat(int64(place), 1))
	return depth.Add(depth, big.NewRat(heights[0]-heights[place], 1))
}

func checkCamberByDefinition(t *testing.T, heights []int64) {
	t.Helper()
	deepest, gap := 0, int64(0)
	for k := range heights {
		if depthIn(heights, k).Cmp(depthIn(heights, deepest)) > 0 {
			deepest = k
		}
		if 0 < k && k < len(heights)-1 {
			gap = max(gap, absolute(heights[k-1]+heights[k+1]-2*heights[k]))
		}
	}
	depth := depthIn(heights, deepest)
	checkCamber(t, heights, int64(deepest), nearestOf(depth.Num(), depth.Denom()).Int64(), gap)
}

func checkNoStick(t *testing.T, heights []int64) {
	t.Helper()
	name := fmt.Sprintf(" of %d heights %s", len(heights), shown(heights))
	place, depth, code := impl.CamberOf(heights)
	same(t, "CamberOf"+name, []int64{place, depth, code}, []int64{0, 0, impl.ErrInvalid})
	gap, code := impl.CamberGap(heights)
	same(t, "CamberGap"+name, []int64{gap, code}, []int64{0, impl.ErrInvalid})
}

func TestPromise12Cambers(t *testing.T) {
	random := rand.New(rand.NewSource(168))
	for round := range 6000 {
		most := []int64{1, 5, 100, 8000}[round%4]
		heights := make([]int64, 3+random.Intn(62))
		if round%3 == 0 {
			heights = heights[:3+random.Intn(min(6, len(heights)-2))]
		}
		for k := range heights {
			heights[k] = random.Int63n(2*most+1) - most
		}
		checkCamberByDefinition(t, heights)
	}
}

func TestPromise12CambersTellTheirValues(t *testing.T) {
	for _, c := range []struct {
		heights           []int64
		place, depth, gap int64
	}{
		{[]int64{0, -30, 0}, 1, 30, 60}, {[]int64{0, -20, -30, -10, 0}, 2, 30, 30},
		// Straight sticks: level ones, and ones that rise or fall evenly.
		{[]int64{0, 0, 0}, 0, 0, 0}, {[]int64{7, 7, 7, 7}, 0, 0, 0}, {[]int64{-8000, 0, 8000}, 0, 0, 0}, {[]int64{8000, 0, -8000}, 0, 0, 0}, {[]int64{0, 1, 2, 3, 4}, 0, 0, 0}, {[]int64{5, 3, 1, -1}, 0, 0, 0}, {make([]int64, 64), 0, 0, 0},
		// Sticks that bend upwards only have no depth but at their ends.
		{[]int64{0, 30, 0}, 0, 0, 60}, {[]int64{0, 10, 20, 10, 0}, 0, 0, 20}, {[]int64{-1, 8000, -1}, 0, 0, 16002},
		// Sticks that bend both ways.
		{[]int64{0, 30, -30, 0}, 2, 30, 90}, {[]int64{0, -30, 30, 0}, 1, 30, 90}, {[]int64{0, -20, 40, -21, 5, 0}, 3, 21, 121}, {[]int64{0, 10, 0, -10, 0}, 3, 10, 20}, {[]int64{0, -10, 0, 10, 0}, 1, 10, 20}, {[]int64{8000, -8000, 8000, -8000}, 1, 10667, 32000}, {[]int64{-8000, 8000, -8000, 8000}, 2, 10667, 32000},
		// Several greatest depths, of which the first one counts; a greater one behind them.
		{[]int64{0, -30, -30, 0}, 1, 30, 30}, {[]int64{0, -30, 0, -30, 0}, 1, 30, 60}, {[]int64{0, -5, -30, -30, -30, 0}, 2, 30, 30}, {[]int64{0, -30, -30, -31, 0}, 3, 31, 32}, {[]int64{0, -29, -30, -30, 0}, 2, 30, 30}, {[]int64{0, -7, 1}, 1, 8, 15}, {[]int64{0, 0, 3, 3}, 1, 1, 3}, {[]int64{3, 1, 0, 0}, 1, 1, 1},
		// Depths of 1/2, 3/2, 1/3, 2/3 and 4/3: a fraction is rounded only behind the choice of the place.
		{[]int64{0, 0, 1}, 1, 1, 1}, {[]int64{1, 0, 0}, 1, 1, 1}, {[]int64{0, -1, 1}, 1, 2, 3}, {[]int64{0, 1, 1}, 0, 0, 1}, {[]int64{0, 0, 0, 1}, 2, 1, 1}, {[]int64{0, 0, 1, 1}, 1, 0, 1}, {[]int64{1, 0, 0, 0}, 1, 1, 1}, {[]int64{0, -1, -1, 1}, 2, 2, 2}, {[]int64{0, -1, -1, -1, 1}, 3, 2, 2}, {[]int64{1, -1, -1, -1, 0}, 1, 2, 2},
		// 5/4, 6/4 and 7/4.
		{[]int64{0, -1, 1, 1, 1}, 1, 1, 3}, {[]int64{0, -1, 1, 2, 2}, 1, 2, 3}, {[]int64{0, -1, 1, 2, 3}, 1, 2, 3},
		// The ends of the heights and of their number.
		{[]int64{8000, -8000, 8000}, 1, 16000, 32000}, {[]int64{-8000, 8000, -8000}, 0, 0, 32000}, {slices.Concat([]int64{8000}, slices.Repeat([]int64{-8000}, 62), []int64{8000}), 1, 16000, 16000}, {slices.Concat([]int64{-8000}, slices.Repeat([]int64{-8000}, 62), []int64{8000}), 62, 15746, 16000}, {slices.Concat([]int64{8000}, slices.Repeat([]int64{-8000}, 62), []int64{-8000}), 1, 15746, 16000},
		// The greatest gap is at either end.
		{[]int64{0, 9, 9, 9, 9}, 0, 0, 9}, {[]int64{0, 0, 0, 0, 9}, 3, 7, 9}, {[]int64{0, -9, -9, -9, -9}, 1, 7, 9},
	} {
		checkCamber(t, c.heights, c.place, c.depth, c.gap)
		checkCamberByDefinition(t, c.heights)
	}
}

func TestPromise12SticksThatAreNotAsStated(t *testing.T) {
	for _, many := range []int{0, 1, 2, 65, 66, 128, 1000} {
		checkNoStick(t, make([]int64, many))
		checkNoStick(t, slices.Repeat([]int64{8001}, many))
	}
	checkNoStick(t, nil)
	for _, many := range []int{3, 4, 63, 64} {
		for at := range many {
			for _, wrong := range []int64{math.MinInt64, math.MinInt64 + 1, -1 << 32, -8002, -8001, 8001, 8002, 1 << 32, 1<<32 + 1, math.MaxInt64 - 1, math.MaxInt64} {
				heights := make([]int64, many)
				heights[at] = wrong
				checkNoStick(t, heights)
			}
			for _, n := range []int64{-8000, -7999, 7999, 8000} {
				heights := make([]int64, many)
				heights[at] = n
				checkCamberByDefinition(t, heights)
			}
		}
	}
	checkNoStick(t, []int64{math.MinInt64, math.MaxInt64, math.MinInt64})
	checkNoStick(t, slices.Repeat([]int64{math.MaxInt64}, 64))
}
