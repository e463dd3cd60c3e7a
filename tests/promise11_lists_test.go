package tests

import (
	"fmt"
	"math/rand"
	"slices"
	"testing"

	"loop.example/g01061/impl"
)

func checkHeights(t *testing.T, nut, bridge, parts int64, want []int64, code int64) {
	t.Helper()
	heights, got := impl.HeightsAlong(nut, bridge, parts)
	same(t, fmt.Sprintf("HeightsAlong(%d, %d, %d)", nut, bridge, parts), []any{fmt.Sprint(heights), got}, []any{fmt.Sprint(want), code})
}

// heightsOf has the heights of a string, each one by Blend of chapter 1.
func heightsOf(nut, bridge, parts int64) []int64 {
	heights := []int64{}
	for k := range parts + 1 {
		heights = append(heights, blendOf(0, nut, parts, bridge, k))
	}
	return heights
}

// checkRise checks that a string goes from the nut to the bridge, in one direction, by steps that
// differ by at most 1.
func checkRise(t *testing.T, nut, bridge, parts int64) {
	t.Helper()
	heights, code := impl.HeightsAlong(nut, bridge, parts)
	name := fmt.Sprintf("HeightsAlong(%d, %d, %d) is %v", nut, bridge, parts, heights)
	same(t, name, []int64{heights[0], heights[len(heights)-1], int64(len(heights)), code}, []int64{nut, bridge, parts + 1, impl.OK})
	steps := []int64{}
	for k := range parts {
		steps = append(steps, heights[k+1]-heights[k])
	}
	same(t, name+" and even", []bool{slices.Max(steps)-slices.Min(steps) <= 1, nut > bridge || slices.Min(steps) >= 0, nut < bridge || slices.Max(steps) <= 0}, []bool{true, true, true})
}

func TestPromise11StringsRiseEvenly(t *testing.T) {
	random := rand.New(rand.NewSource(148))
	for round := range 2000 {
		most := []int64{10, 100, 2000}[round%3]
		nut, bridge := random.Int63n(most+1), random.Int63n(most+1)
		for parts := int64(1); parts <= 24; parts++ {
			for _, ends := range [][2]int64{{nut, bridge}, {nut, nut}, {0, bridge}, {nut, 2000}} {
				checkHeights(t, ends[0], ends[1], parts, heightsOf(ends[0], ends[1], parts), impl.OK)
				checkRise(t, ends[0], ends[1], parts)
			}
		}
	}
}

func TestPromise11HeightsAlongTellsItsValue(t *testing.T) {
	checkHeights(t, 10, 50, 4, []int64{10, 20, 30, 40, 50}, impl.OK)
	checkHeights(t, 50, 10, 4, []int64{50, 40, 30, 20, 10}, impl.OK)
	checkHeights(t, 10, 50, 1, []int64{10, 50}, impl.OK)
	checkHeights(t, 50, 10, 1, []int64{50, 10}, impl.OK)
	checkHeights(t, 7, 7, 1, []int64{7, 7}, impl.OK)
	checkHeights(t, 0, 2000, 1, []int64{0, 2000}, impl.OK)
	checkHeights(t, 7, 7, 24, slices.Repeat([]int64{7}, 25), impl.OK)
	checkHeights(t, 0, 0, 24, make([]int64, 25), impl.OK)
	checkHeights(t, 2000, 2000, 2, []int64{2000, 2000, 2000}, impl.OK)
	// What lies in the middle between two heights goes away from the nut.
	checkHeights(t, 0, 1, 2, []int64{0, 1, 1}, impl.OK)
	checkHeights(t, 1, 0, 2, []int64{1, 0, 0}, impl.OK)
	checkHeights(t, 10, 13, 2, []int64{10, 12, 13}, impl.OK)
	checkHeights(t, 13, 10, 2, []int64{13, 11, 10}, impl.OK)
	checkHeights(t, 0, 10, 3, []int64{0, 3, 7, 10}, impl.OK)
	checkHeights(t, 10, 0, 3, []int64{10, 7, 3, 0}, impl.OK)
	checkHeights(t, 0, 12, 24, []int64{0, 1, 1, 2, 2, 3, 3, 4, 4, 5, 5, 6, 6, 7, 7, 8, 8, 9, 9, 10, 10, 11, 11, 12, 12}, impl.OK)
	checkHeights(t, 12, 0, 24, []int64{12, 11, 11, 10, 10, 9, 9, 8, 8, 7, 7, 6, 6, 5, 5, 4, 4, 3, 3, 2, 2, 1, 1, 0, 0}, impl.OK)
	checkHeights(t, 0, 2000, 24, []int64{0, 83, 167, 250, 333, 417, 500, 583, 667, 750, 833, 917, 1000, 1083, 1167, 1250, 1333, 1417, 1500, 1583, 1667, 1750, 1833, 1917, 2000}, impl.OK)
	for _, n := range outside(0, 2000) {
		for _, parts := range []int64{0, 1, 4, 24, 25, n} {
			checkHeights(t, n, 50, parts, nil, impl.ErrRange)
			checkHeights(t, 10, n, parts, nil, impl.ErrRange)
			checkHeights(t, n, n, parts, nil, impl.ErrRange)
		}
	}
	for _, parts := range outside(1, 24) {
		for _, n := range []int64{-1, 0, 10, 2000, 2001} {
			checkHeights(t, n, 50, parts, nil, impl.ErrRange)
			checkHeights(t, 10, n, parts, nil, impl.ErrRange)
		}
	}
}

func checkNearest(t *testing.T, list []impl.Neck, want impl.Neck, index, gap, code int64) {
	t.Helper()
	gotIndex, gotGap, got := impl.NearestNeck(list, want)
	same(t, fmt.Sprintf("NearestNeck of %d necks %s for %+v", len(list), shown(list), want), []int64{gotIndex, gotGap, got}, []int64{index, gap, code})
}

func absolute(n int64) int64 { return max(n, -n) }

// neckGap is the sum of the differences of two necks.
func neckGap(x, y impl.Neck) int64 {
	return absolute(x.Stop-y.Stop) + absolute(x.Body-y.Body) + absolute(x.Over-y.Over) + absolute(x.Angle-y.Angle)
}

// similarNecks are necks that differ by little, so that several are equally near.
func similarNecks(random *rand.Rand, many int) []impl.Neck {
	list := make([]impl.Neck, many)
	for k := range list {
		list[k] = neck(1300+random.Int63n(4), 1950+random.Int63n(4), 60+random.Int63n(4), 110+random.Int63n(4))
	}
	return list
}

func TestPromise11NearestNeck(t *testing.T) {
	random := rand.New(rand.NewSource(149))
	several := 0
	for round := range 5000 {
		list := similarNecks(random, 1+random.Intn(64))
		want := similarNecks(random, 1)[0]
		if round%2 == 0 {
			for k := range list {
				list[k] = randomNeck(random)
			}
			want = randomNeck(random)
		}
		gaps := []int64{}
		for _, x := range list {
			gaps = append(gaps, neckGap(x, want))
		}
		least := slices.Min(gaps)
		index := slices.Index(gaps, least)
		if slices.Contains(gaps[index+1:], least) {
			several++
		}
		checkNearest(t, list, want, int64(index), least, impl.OK)
	}
	if several < 1000 {
		t.Errorf("too few lists with several nearest necks: %d", several)
	}
}

func TestPromise11NearestNeckTellsItsValue(t *testing.T) {
	x, y := violin, neck(1310, 1950, 60, 110)
	checkNearest(t, []impl.Neck{x, y}, neck(1309, 1950, 60, 110), 1, 1, impl.OK)
	checkNearest(t, []impl.Neck{x, y}, neck(1304, 1950, 60, 110), 0, 4, impl.OK)
	checkNearest(t, []impl.Neck{x, y}, neck(1306, 1950, 60, 110), 1, 4, impl.OK)
	// Of several nearest necks the first one counts.
	checkNearest(t, []impl.Neck{x, y}, neck(1305, 1950, 60, 110), 0, 5, impl.OK)
	checkNearest(t, []impl.Neck{y, x}, neck(1305, 1950, 60, 110), 0, 5, impl.OK)
	checkNearest(t, []impl.Neck{y, x, x, x}, violin, 1, 0, impl.OK)
	checkNearest(t, slices.Repeat([]impl.Neck{x}, 64), y, 0, 10, impl.OK)
	checkNearest(t, []impl.Neck{x}, x, 0, 0, impl.OK)
	// Each field counts, in both directions, as much as another one.
	list := []impl.Neck{neck(1305, 1950, 60, 110), neck(1300, 1946, 60, 110), neck(1300, 1950, 63, 110), neck(1300, 1950, 60, 108), neck(1301, 1950, 60, 110)}
	for k := range int64(5) {
		checkNearest(t, list[:k+1], violin, k, 5-k, impl.OK)
	}
	checkNearest(t, []impl.Neck{neck(1301, 1951, 61, 111)}, violin, 0, 4, impl.OK)
	checkNearest(t, []impl.Neck{neck(1299, 1949, 59, 109)}, violin, 0, 4, impl.OK)
	checkNearest(t, []impl.Neck{neck(1301, 1949, 61, 109)}, violin, 0, 4, impl.OK)
	// No neck is too far away.
	checkNearest(t, []impl.Neck{neck(10000, 10000, 500, 300)}, neck(100, 100, 0, 0), 0, 20600, impl.OK)
	checkNearest(t, []impl.Neck{neck(100, 100, 0, 0)}, neck(10000, 10000, 500, 300), 0, 20600, impl.OK)
	checkNearest(t, nil, violin, 0, 0, impl.ErrNotFound)
	checkNearest(t, []impl.Neck{}, neck(100, 100, 0, 0), 0, 0, impl.ErrNotFound)
}

func TestPromise11NecksUpToTheLimit(t *testing.T) {
	for _, many := range []int{1, 2, 63, 64} {
		list := slices.Repeat([]impl.Neck{neck(1300, 1950, 60, 120)}, many)
		list[many-1] = violin
		checkNearest(t, list, violin, int64(many-1), 0, impl.OK)
		checkSet(t, list, 275, 0, []int64{int64(many - 1)}, impl.OK)
	}
	for _, many := range []int{65, 66, 128, 1000} {
		list := slices.Repeat([]impl.Neck{violin}, many)
		checkNearest(t, list, violin, 0, 0, impl.ErrRange)
		checkSet(t, list, 275, 0, nil, impl.ErrRange)
		checkSet(t, list, -1, 1001, nil, impl.ErrRange)
	}
}

func TestPromise11OneWrongNeck(t *testing.T) {
	for _, wrong := range []impl.Neck{{}, neck(99, 1950, 60, 110), neck(1300, 10001, 60, 110), neck(1300, 1950, -1, 110), neck(1300, 1950, 60, 301)} {
		for _, many := range []int{1, 2, 64, 65, 1000} {
			for _, at := range []int{0, many / 2, many - 1} {
				list := slices.Repeat([]impl.Neck{violin}, many)
				checkInvalidNecks(t, slices.Replace(list, at, at+1, wrong), violin)
				checkInvalidNecks(t, slices.Replace(list, at, at+1, wrong), wrong)
			}
			// A wanted neck that is wrong comes ahead of too many necks, and of none.
			checkNearest(t, slices.Repeat([]impl.Neck{violin}, many), wrong, 0, 0, impl.ErrInvalid)
		}
		checkNearest(t, nil, wrong, 0, 0, impl.ErrInvalid)
	}
}

func checkSet(t *testing.T, list []impl.Neck, height, off int64, want []int64, code int64) {
	t.Helper()
	set, got := impl.SetNecks(list, height, off)
	same(t, fmt.Sprintf("SetNecks of %d necks %s, %d, %d", len(list), shown(list), height, off), []any{fmt.Sprint(set), got}, []any{fmt.Sprint(want), code})
}

func TestPromise11SetNecks(t *testing.T) {
	random := rand.New(rand.NewSource(150))
	none := 0
	for range 5000 {
		list := similarNecks(random, random.Intn(65))
		for k := range list {
			if random.Intn(2) == 0 {
				list[k] = randomNeck(random)
			}
		}
		height := randomHeight(random, 275)
		for _, off := range []int64{0, 1, 1000, random.Int63n(1001)} {
			want := []int64{}
			for k, x := range list {
				if absolute(projectionOf(x, x.Angle)-height) <= off {
					want = append(want, int64(k))
				}
			}
			if len(want) == 0 {
				none++
			}
			checkSet(t, list, height, off, want, impl.OK)
		}
	}
	if none < 1000 {
		t.Errorf("too few lists without a neck near enough: %d", none)
	}
}

func TestPromise11SetNecksTellsItsValue(t *testing.T) {
	list := []impl.Neck{violin, neck(1300, 1950, 70, 110), neck(1300, 1950, 50, 110), violin}
	checkSet(t, list[:1], 276, 1, []int64{0}, impl.OK)
	checkSet(t, list[:1], 276, 0, nil, impl.OK)
	checkSet(t, list[:1], 274, 1, []int64{0}, impl.OK)
	checkSet(t, list[:1], 274, 0, nil, impl.OK)
	checkSet(t, list[:1], 275, 0, []int64{0}, impl.OK)
	// They differ from 275 by just 10, to both sides.
	checkSet(t, list, 275, 0, []int64{0, 3}, impl.OK)
	checkSet(t, list, 275, 9, []int64{0, 3}, impl.OK)
	checkSet(t, list, 275, 10, []int64{0, 1, 2, 3}, impl.OK)
	checkSet(t, list, 285, 10, []int64{0, 1, 3}, impl.OK)
	checkSet(t, list, 265, 10, []int64{0, 2, 3}, impl.OK)
	checkSet(t, list, 286, 10, []int64{1}, impl.OK)
	checkSet(t, list, 264, 10, []int64{2}, impl.OK)
	checkSet(t, list, 0, 1000, []int64{0, 1, 2, 3}, impl.OK)
	checkSet(t, list, 0, 275, []int64{0, 2, 3}, impl.OK)
	checkSet(t, list, 0, 274, []int64{2}, impl.OK)
	checkSet(t, list, 1265, 1000, []int64{0, 1, 2, 3}, impl.OK)
	checkSet(t, list, 1266, 1000, []int64{0, 1, 3}, impl.OK)
	checkSet(t, list, 2000, 1000, nil, impl.OK)
	// Projections may be greater than all heights.
	high := []impl.Neck{neck(100, 10000, 0, 300), neck(100, 10000, 1, 300), neck(100, 10000, 500, 300)}
	checkSet(t, high, 2000, 1000, []int64{0}, impl.OK)
	checkSet(t, high, 2000, 999, nil, impl.OK)
	checkSet(t, nil, 276, 1, nil, impl.OK)
	checkSet(t, []impl.Neck{}, 0, 0, nil, impl.OK)
}

func TestPromise11SetNecksRefuses(t *testing.T) {
	for _, list := range [][]impl.Neck{nil, {violin}, slices.Repeat([]impl.Neck{violin}, 64), slices.Repeat([]impl.Neck{violin}, 65)} {
		for _, height := range outside(0, 2000) {
			for _, off := range []int64{-1, 0, 1000, 1001, height} {
				checkSet(t, list, height, off, nil, impl.ErrRange)
			}
		}
		for _, off := range outside(0, 1000) {
			for _, height := range []int64{-1, 0, 275, 2000, 2001} {
				checkSet(t, list, height, off, nil, impl.ErrRange)
			}
		}
	}
}
