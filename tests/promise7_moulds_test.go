package tests

import (
	"fmt"
	"math"
	"math/rand"
	"slices"
	"testing"

	"loop.example/g01061/impl"
)

func checkTaper(t *testing.T, from, to, many int64, want []int64, code int64) {
	t.Helper()
	heights, got := impl.TaperHeights(from, to, many)
	same(t, fmt.Sprintf("TaperHeights(%d, %d, %d)", from, to, many), []any{fmt.Sprint(heights), got}, []any{fmt.Sprint(want), code})
}

func TestPromise7TaperHeights(t *testing.T) {
	random := rand.New(rand.NewSource(77))
	for round := range 3000 {
		most := []int64{10, 400, 10000}[round%3]
		from, to := 1+random.Int63n(most), 1+random.Int63n(most)
		for many := int64(2); many <= 8; many++ {
			want := []int64{}
			for k := range many {
				want = append(want, from+roundedOf((to-from)*k, many-1))
			}
			checkTaper(t, from, to, many, want, impl.OK)
		}
	}
}

func TestPromise7TaperHeightsTellsItsValue(t *testing.T) {
	checkTaper(t, 320, 300, 3, []int64{320, 310, 300}, impl.OK)
	checkTaper(t, 300, 320, 2, []int64{300, 320}, impl.OK)
	checkTaper(t, 1, 10000, 8, []int64{1, 1429, 2858, 4286, 5715, 7143, 8572, 10000}, impl.OK)
	checkTaper(t, 10000, 1, 8, []int64{10000, 8572, 7143, 5715, 4286, 2858, 1429, 1}, impl.OK)
	// What lies in the middle between two heights goes away from the first one.
	checkTaper(t, 1, 2, 3, []int64{1, 2, 2}, impl.OK)
	checkTaper(t, 2, 1, 3, []int64{2, 1, 1}, impl.OK)
	checkTaper(t, 7, 7, 8, []int64{7, 7, 7, 7, 7, 7, 7, 7}, impl.OK)
	checkTaper(t, 1, 1, 2, []int64{1, 1}, impl.OK)
	for _, n := range []int64{math.MinInt64, math.MinInt64 + 1, -1, 0, 10001, math.MaxInt64 - 1, math.MaxInt64} {
		checkTaper(t, n, 300, 3, nil, impl.ErrRange)
		checkTaper(t, 320, n, 3, nil, impl.ErrRange)
		checkTaper(t, 320, 300, n, nil, impl.ErrRange)
		checkTaper(t, n, n, n, nil, impl.ErrRange)
	}
	for _, many := range []int64{-2, 1, 9, 10, 1 << 32, 1<<32 + 2} {
		checkTaper(t, 320, 300, many, nil, impl.ErrRange)
	}
}

// stepsOf returns the least number of steps, by trying one after the other.
func stepsOf(radius, thick, heat int64) int64 {
	steps := int64(0)
	for thick*1000/radius > heat+10*steps {
		steps++
	}
	return steps
}

func checkSteps(t *testing.T, radius, thick, heat, want, code int64) {
	t.Helper()
	steps, got := impl.BendSteps(radius, thick, heat)
	same(t, fmt.Sprintf("BendSteps(%d, %d, %d)", radius, thick, heat), []int64{steps, got}, []int64{want, code})
}

func TestPromise7BendSteps(t *testing.T) {
	random := rand.New(rand.NewSource(78))
	for round := range 30000 {
		radius, thick, heat := 1+random.Int63n([]int64{10, 300, 10000}[round%3]), 1+random.Int63n(100), 1+random.Int63n(1000)
		checkSteps(t, radius, thick, heat, stepsOf(radius, thick, heat), impl.OK)
	}
	for _, c := range [][4]int64{
		{100, 12, 60, 6}, {100, 12, 61, 6}, {100, 12, 69, 6}, {100, 12, 70, 5}, {100, 12, 119, 1}, {100, 12, 120, 0}, {100, 12, 121, 0}, {100, 12, 1000, 0}, {99, 12, 121, 0}, {99, 12, 120, 1},
		{1, 1, 1, 100}, {1, 100, 1, 10000}, {1, 100, 1000, 9900}, {10000, 100, 1, 1}, {10000, 100, 10, 0}, {10000, 100, 9, 1}, {10000, 1, 1, 0}, {10000, 1, 1000, 0}, {1, 1, 1000, 0}, {1, 1, 999, 1},
	} {
		checkSteps(t, c[0], c[1], c[2], c[3], impl.OK)
	}
}

func TestPromise7BendStepsRefuses(t *testing.T) {
	for _, n := range []int64{math.MinInt64, math.MinInt64 + 1, -1, 0, 10001, math.MaxInt64 - 1, math.MaxInt64} {
		checkSteps(t, n, 12, 60, 0, impl.ErrRange)
		checkSteps(t, 100, n, 60, 0, impl.ErrRange)
		checkSteps(t, 100, 12, n, 0, impl.ErrRange)
		checkSteps(t, n, n, n, 0, impl.ErrRange)
	}
	checkSteps(t, 100, 101, 60, 0, impl.ErrRange)
	checkSteps(t, 100, 12, 1001, 0, impl.ErrRange)
}

func checkBend(t *testing.T, thick, heat, steps, want, code int64) {
	t.Helper()
	radius, got := impl.LeastBend(thick, heat, steps)
	same(t, fmt.Sprintf("LeastBend(%d, %d, %d)", thick, heat, steps), []int64{radius, got}, []int64{want, code})
}

// bendOf returns the least radius and OK, or ErrNotFound, by trying one after the other.
func bendOf(thick, heat, steps int64) (int64, int64) {
	for radius := int64(1); radius <= 10000; radius++ {
		if thick*1000/radius <= heat+10*steps {
			return radius, impl.OK
		}
	}
	return 0, impl.ErrNotFound
}

func TestPromise7LeastBend(t *testing.T) {
	random := rand.New(rand.NewSource(79))
	for round := range 5000 {
		thick, heat, steps := 1+random.Int63n(100), 1+random.Int63n([]int64{20, 1000}[round%2]), random.Int63n([]int64{3, 101}[round/2%2])
		want, code := bendOf(thick, heat, steps)
		checkBend(t, thick, heat, steps, want, code)
		if code == impl.OK {
			// The radius is just great enough for these steps.
			enough, _ := impl.BendSteps(want, thick, heat)
			before, code := impl.BendSteps(want-1, thick, heat)
			if enough > steps || code == impl.OK && before <= steps {
				t.Errorf("LeastBend(%d, %d, %d) is %d, which takes %d steps, and one less %d", thick, heat, steps, want, enough, before)
			}
		}
	}
}

func TestPromise7LeastBendTellsItsValue(t *testing.T) {
	for _, c := range [][5]int64{
		{12, 60, 6, 100, 0}, {12, 60, 5, 109, 0}, {12, 60, 0, 197, 0}, {12, 1000, 100, 6, 0}, {1, 1000, 0, 1, 0}, {1, 999, 0, 2, 0}, {1, 990, 1, 1, 0}, {1, 1000, 100, 1, 0}, {100, 1000, 100, 50, 0},
		{100, 10, 0, 9091, 0}, {100, 9, 0, 0, 3}, {99, 9, 0, 9901, 0}, {100, 1, 0, 0, 3}, {20, 1, 0, 0, 3}, {19, 1, 0, 9501, 0}, {100, 1, 1, 8334, 0}, {1, 1, 0, 501, 0}, {1, 1, 100, 1, 0},
	} {
		checkBend(t, c[0], c[1], c[2], c[3], c[4])
	}
	for _, n := range []int64{math.MinInt64, math.MinInt64 + 1, -1, 1001, math.MaxInt64 - 1, math.MaxInt64} {
		checkBend(t, n, 60, 6, 0, impl.ErrRange)
		checkBend(t, 12, n, 6, 0, impl.ErrRange)
		checkBend(t, 12, 60, n, 0, impl.ErrRange)
		checkBend(t, 100, 1, n, 0, impl.ErrRange)
	}
	checkBend(t, 0, 60, 6, 0, impl.ErrRange)
	checkBend(t, 101, 60, 6, 0, impl.ErrRange)
	checkBend(t, 12, 0, 6, 0, impl.ErrRange)
	checkBend(t, 12, 60, 101, 0, impl.ErrRange)
}

func checkBlocks(t *testing.T, list []impl.Rib, height int64, want []int64, code int64) {
	t.Helper()
	places, got := impl.BlocksAt(list, height)
	same(t, fmt.Sprintf("BlocksAt of %s, %d", shown(list), height), []any{fmt.Sprint(places), got}, []any{fmt.Sprint(want), code})
}

func TestPromise7BlocksAt(t *testing.T) {
	random := rand.New(rand.NewSource(80))
	for range 3000 {
		list := randomRibs(random, random.Intn(impl.MaxRibs+1), 10000)
		want, sum, lowest := []int64{}, int64(0), int64(10000)
		for k := range list {
			list[k].Height = 300 + random.Int63n(5)
			lowest = min(lowest, list[k].Height)
			want = append(want, sum)
			sum += list[k].Length
		}
		for _, height := range []int64{1, lowest - 1, lowest} {
			checkBlocks(t, list, height, want, impl.OK)
		}
		if len(list) > 0 {
			checkBlocks(t, list, lowest+1, nil, impl.ErrState)
			checkBlocks(t, list, 10000, nil, impl.ErrState)
		}
	}
}

func TestPromise7BlocksAtTellsItsValue(t *testing.T) {
	list := []impl.Rib{rib("ra", 1000, 300), rib("rb", 900, 300), rib("rc", 1200, 320)}
	checkBlocks(t, list, 300, []int64{0, 1000, 1900}, impl.OK)
	checkBlocks(t, list, 301, nil, impl.ErrState)
	checkBlocks(t, list, 310, nil, impl.ErrState)
	checkBlocks(t, list[2:], 320, []int64{0}, impl.OK)
	checkBlocks(t, list[1:], 320, nil, impl.ErrState)
	checkBlocks(t, []impl.Rib{rib("ra", 10000, 10000), rib("rb", 1, 10000)}, 10000, []int64{0, 10000}, impl.OK)
	checkBlocks(t, []impl.Rib{rib("ra", 10000, 10000), rib("rb", 1, 9999)}, 10000, nil, impl.ErrState)
	checkBlocks(t, nil, 1, nil, impl.OK)
	checkBlocks(t, nil, 10000, nil, impl.OK)
	for _, height := range []int64{math.MinInt64, -1, 0, 10001, math.MaxInt64} {
		checkBlocks(t, list, height, nil, impl.ErrRange)
		checkBlocks(t, nil, height, nil, impl.ErrRange)
	}
}

func TestPromise7MouldGap(t *testing.T) {
	for _, c := range []struct {
		lengths           []int64
		round, want, code int64
	}{
		{[]int64{1000, 900, 1200}, 3150, 50, 0}, {[]int64{1000, 900, 1200}, 3100, 0, 0}, {[]int64{1000, 900, 1200}, 3099, -1, 0}, {[]int64{1000, 900, 1200}, 0, -3100, 0},
		{[]int64{1000, 900, 1200}, 100000, 96900, 0}, {slices.Repeat([]int64{10000}, 8), 0, -80000, 0}, {slices.Repeat([]int64{10000}, 8), 100000, 20000, 0}, {nil, 0, 0, 0}, {nil, 100000, 100000, 0},
		{nil, -1, 0, 2}, {nil, 100001, 0, 2}, {[]int64{1}, -1, 0, 2}, {[]int64{1}, 100001, 0, 2}, {[]int64{1}, math.MinInt64, 0, 2}, {[]int64{1}, math.MaxInt64, 0, 2},
		{[]int64{0}, 0, 0, 1}, {[]int64{0}, -1, 0, 1}, {[]int64{10001}, 100001, 0, 1},
	} {
		gap, code := impl.MouldGap(ribsWith(c.lengths...), c.round)
		same(t, fmt.Sprintf("MouldGap of %v at %d", c.lengths, c.round), []int64{gap, code}, []int64{c.want, c.code})
	}
}

// stretchOf returns the Lengths that ribs should have at a mould, and OK or ErrState.
func stretchOf(lengths []int64, round int64) ([]int64, int64) {
	sum, missing := int64(0), round
	for _, length := range lengths {
		sum += length
	}
	stretched := []int64{}
	for _, length := range lengths {
		part := (round*length - round*length%sum) / sum
		stretched, missing = append(stretched, part), missing-part
	}
	for k := range stretched {
		if missing > 0 {
			stretched[k], missing = stretched[k]+1, missing-1
		}
	}
	if len(stretched) == 0 || slices.Min(stretched) < 1 || slices.Max(stretched) > 10000 {
		return []int64{}, impl.ErrState
	}
	return stretched, impl.OK
}

func checkStretch(t *testing.T, list []impl.Rib, round int64, want []int64, code int64) {
	t.Helper()
	stretched, got := impl.StretchRibs(list, round)
	name := fmt.Sprintf("StretchRibs of %v to %d", lengthsOf(list), round)
	same(t, name, []any{fmt.Sprint(lengthsOf(stretched)), got}, []any{fmt.Sprint(want), code})
	for k, x := range stretched {
		same(t, name+", Id and Height", rib(x.Id, 0, x.Height), rib(list[k].Id, 0, list[k].Height))
	}
	if got == impl.OK {
		gap, code := impl.MouldGap(stretched, round)
		same(t, name+", the gap behind", []any{gap, code, impl.ValidRibs(stretched)}, []any{int64(0), int64(impl.OK), true})
	}
}

func TestPromise7StretchedRibsFitTheMould(t *testing.T) {
	random := rand.New(rand.NewSource(81))
	for k := range 3000 {
		list := randomRibs(random, random.Intn(impl.MaxRibs+1), []int64{3, 2000, 10000}[k%3])
		for j := range list {
			list[j].Height = 1 + random.Int63n(10000)
		}
		for _, most := range []int64{20, 8000, 100001} {
			round := random.Int63n(most)
			want, code := stretchOf(lengthsOf(list), round)
			checkStretch(t, list, round, want, code)
		}
		sum, _ := impl.RibsLength(list)
		if sum > 0 {
			checkStretch(t, list, sum, lengthsOf(list), impl.OK)
		}
	}
}

func TestPromise7StretchRibsToEachRound(t *testing.T) {
	for _, lengths := range [][]int64{{1}, {10000}, {7, 9}, {10000, 1}, {1, 10000}, {1000, 900, 1200}, {1, 1, 1, 1, 1, 1, 1, 1}, slices.Repeat([]int64{10000}, 8), {1, 2, 4, 8, 16, 32, 64, 128}} {
		list := ribsWith(lengths...)
		for round := range int64(100001) {
			want, code := stretchOf(lengths, round)
			stretched, got := impl.StretchRibs(list, round)
			if code != got || !slices.Equal(lengthsOf(stretched), want) {
				t.Fatalf("StretchRibs of %v to %d: got %v, %d, want %v, %d", lengths, round, lengthsOf(stretched), got, want, code)
			}
		}
	}
}

func TestPromise7StretchRibsTellsItsValue(t *testing.T) {
	for _, c := range []struct {
		lengths []int64
		round   int64
		want    []int64
	}{
		{[]int64{1000, 900, 1200}, 3103, []int64{1001, 901, 1201}}, {[]int64{1000, 900, 1200}, 3100, []int64{1000, 900, 1200}}, {[]int64{1000, 900, 1200}, 3101, []int64{1001, 900, 1200}},
		{[]int64{1000, 900, 1200}, 3102, []int64{1001, 901, 1200}}, {[]int64{1000, 900, 1200}, 3099, []int64{1000, 900, 1199}}, {[]int64{1000, 900, 1200}, 31, []int64{10, 9, 12}},
		{[]int64{1000, 900, 1200}, 3, []int64{1, 1, 1}}, {[]int64{1000, 900, 1200}, 4, []int64{2, 1, 1}}, {[]int64{1000, 900, 1200}, 2, nil}, {[]int64{1000, 900, 1200}, 0, nil},
		{[]int64{1}, 0, nil}, {[]int64{1}, 1, []int64{1}}, {[]int64{1}, 10000, []int64{10000}}, {[]int64{1}, 10001, nil}, {[]int64{10000}, 1, []int64{1}}, {[]int64{10000}, 100000, nil},
		{[]int64{5, 5}, 1, nil}, {[]int64{5, 5}, 2, []int64{1, 1}}, {[]int64{5, 5}, 20000, []int64{10000, 10000}}, {[]int64{5, 5}, 20001, nil}, {[]int64{5, 5}, 19999, []int64{10000, 9999}},
		{slices.Repeat([]int64{1}, 8), 7, nil}, {slices.Repeat([]int64{1}, 8), 8, slices.Repeat([]int64{1}, 8)}, {slices.Repeat([]int64{1}, 8), 80000, slices.Repeat([]int64{10000}, 8)},
		{slices.Repeat([]int64{1}, 8), 80001, nil}, {slices.Repeat([]int64{1}, 8), 100000, nil}, {slices.Repeat([]int64{10000}, 8), 8, slices.Repeat([]int64{1}, 8)}, {slices.Repeat([]int64{10000}, 8), 80001, nil},
		// Rounding down and what is missing then may help a short rib at the beginning, not at the end.
		{[]int64{1, 10000}, 2, []int64{1, 1}}, {[]int64{10000, 1}, 2, nil}, {[]int64{1, 10000}, 10002, []int64{2, 10000}}, {[]int64{10000, 1}, 10002, nil}, {[]int64{10000, 1}, 10001, []int64{10000, 1}},
	} {
		code := int64(impl.OK)
		if c.want == nil {
			code = impl.ErrState
		}
		checkStretch(t, ribsWith(c.lengths...), c.round, c.want, code)
	}
}

func TestPromise7StretchRibsRefuses(t *testing.T) {
	for _, round := range []int64{0, 1, 3103, 100000} {
		checkStretch(t, nil, round, nil, impl.ErrState)
		checkStretch(t, []impl.Rib{}, round, nil, impl.ErrState)
	}
	for _, round := range []int64{math.MinInt64, math.MinInt64 + 1, -1, 100001, math.MaxInt64 - 1, math.MaxInt64} {
		checkStretch(t, nil, round, nil, impl.ErrRange)
		checkStretch(t, ribsWith(1000, 900, 1200), round, nil, impl.ErrRange)
		checkStretch(t, ribsWith(10001), round, nil, impl.ErrInvalid)
	}
}
