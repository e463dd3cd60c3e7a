package tests

import (
	"fmt"
	"math/rand"
	"slices"
	"testing"

	"loop.example/g01061/impl"
)

func checkFit(t *testing.T, list []impl.Peg, holes []int64, way int64, want []int64, code int64) {
	t.Helper()
	given, got := impl.FitPegs(list, holes, way)
	same(t, fmt.Sprintf("FitPegs of %v into %v, %d", list, holes, way), []any{fmt.Sprint(given), got}, []any{fmt.Sprint(want), code})
	for hole, k := range given {
		in, code := impl.WayIn(list[k], holes[hole])
		same(t, "the peg goes into its hole", []any{in <= way, code}, []any{true, int64(impl.OK)})
	}
}

// ordersOf returns all orders of the numbers from 0 to below many, lexicographically.
func ordersOf(many int) [][]int64 {
	orders := [][]int64{{}}
	for range many {
		longer := [][]int64{}
		for _, order := range orders {
			for k := range int64(many) {
				if !slices.Contains(order, k) {
					longer = append(longer, slices.Concat(order, []int64{k}))
				}
			}
		}
		orders = longer
	}
	return orders
}

// fitsIn returns the first of some orders in which all pegs fit, and how many orders there are.
func fitsIn(orders [][]int64, list []impl.Peg, holes []int64, most int64) (first []int64, many int) {
	fits := make([][]bool, len(holes))
	for hole, width := range holes {
		for _, x := range list {
			way := wayOf(x, width)
			fits[hole] = append(fits[hole], way[1] == impl.OK && way[0] <= most)
		}
	}
	for _, order := range slices.Backward(orders) {
		isWrong := false
		for hole, k := range order {
			isWrong = isWrong || !fits[hole][k]
		}
		if !isWrong {
			first = order
			many++
		}
	}
	return first, many
}

// checkFitByDefinition looks at all orders, and returns how many of them fit.
func checkFitByDefinition(t *testing.T, orders [][]int64, list []impl.Peg, holes []int64, way int64) int {
	t.Helper()
	first, many := fitsIn(orders, list, holes, way)
	code := int64(impl.OK)
	if many == 0 {
		code = impl.ErrNotFound
	}
	checkFit(t, list, holes, way, first, code)
	return many
}

func TestPromise13PegsFitTheirHoles(t *testing.T) {
	random := rand.New(rand.NewSource(176))
	none, one, several := 0, 0, 0
	for many := range 9 {
		orders, rounds := ordersOf(many), 600
		if many > 6 {
			rounds = 12
		}
		for range rounds {
			list, holes := pegsWith(), []int64{}
			for range many {
				list = append(list, peg(fmt.Sprintf("p%03d", len(list)), 56+random.Int63n(10), 100+random.Int63n(300), 20+random.Int63n(20)))
				holes = append(holes, 58+random.Int63n(10))
			}
			found := checkFitByDefinition(t, orders, list, holes, 50+random.Int63n(250))
			switch {
			case found == 0:
				none++
			case found == 1:
				one++
			default:
				several++
			}
		}
	}
	if min(none, one, several) < 100 {
		t.Errorf("too few tests of a kind: %d without an order, %d with one, %d with several", none, one, several)
	}
}

func TestPromise13FitPegsTellsItsValue(t *testing.T) {
	thin, thick := examplePeg, peg("pb", 64, 400, 30)
	for _, c := range []struct {
		list  []impl.Peg
		holes []int64
		way   int64
		want  []int64
		code  int64
	}{
		{[]impl.Peg{thin, thick}, []int64{66, 66}, 200, []int64{0, 1}, impl.OK}, {[]impl.Peg{thin, thick}, []int64{66, 66}, 180, []int64{0, 1}, impl.OK}, {[]impl.Peg{thin, thick}, []int64{66, 66}, 179, nil, impl.ErrNotFound}, {[]impl.Peg{thin, thick}, []int64{66, 66}, 100, nil, impl.ErrNotFound},
		// The thin peg fits into one of the holes only: into the second one, and then into the first one.
		{[]impl.Peg{thin, thick}, []int64{66, 62}, 100, []int64{1, 0}, impl.OK}, {[]impl.Peg{thin, thick}, []int64{62, 66}, 100, []int64{0, 1}, impl.OK}, {[]impl.Peg{thin, thick}, []int64{66, 62}, 180, []int64{0, 1}, impl.OK}, {[]impl.Peg{thin, thick}, []int64{66, 62}, 59, nil, impl.ErrNotFound}, {[]impl.Peg{thin, thick}, []int64{66, 62}, 60, []int64{1, 0}, impl.OK},
		// A way of 0 is enough for holes that are no wider than the thin ends.
		{[]impl.Peg{thin, thick}, []int64{60, 64}, 0, []int64{0, 1}, impl.OK}, {[]impl.Peg{thin, thick}, []int64{64, 60}, 0, []int64{1, 0}, impl.OK}, {[]impl.Peg{thin, thick}, []int64{60, 60}, 0, []int64{0, 1}, impl.OK}, {[]impl.Peg{thin, thick}, []int64{61, 64}, 0, nil, impl.ErrNotFound}, {[]impl.Peg{thin, thick}, []int64{61, 64}, 30, []int64{0, 1}, impl.OK}, {[]impl.Peg{thin, thick}, []int64{20, 20}, 0, []int64{0, 1}, impl.OK},
		// A way beyond the Length does not make a peg longer: 73 and 77 are the widest holes.
		{[]impl.Peg{thin, thick}, []int64{73, 77}, 1000, []int64{0, 1}, impl.OK}, {[]impl.Peg{thin, thick}, []int64{77, 73}, 1000, []int64{1, 0}, impl.OK}, {[]impl.Peg{thin, thick}, []int64{74, 74}, 1000, nil, impl.ErrNotFound}, {[]impl.Peg{thin, thick}, []int64{73, 78}, 1000, nil, impl.ErrNotFound}, {[]impl.Peg{thin, thick}, []int64{73, 77}, 390, []int64{0, 1}, impl.OK}, {[]impl.Peg{thin, thick}, []int64{73, 77}, 389, nil, impl.ErrNotFound},
		{[]impl.Peg{thin}, []int64{73}, 1000, []int64{0}, impl.OK}, {[]impl.Peg{thin}, []int64{74}, 1000, nil, impl.ErrNotFound}, {nil, nil, 0, nil, impl.OK}, {[]impl.Peg{}, []int64{}, 1000, nil, impl.OK},
		// The first choice must be taken back; each peg fits once.
		{pegsWith(70, 60, 65), []int64{60, 65, 70}, 0, []int64{1, 2, 0}, impl.OK}, {pegsWith(70, 60, 65), []int64{60, 60, 70}, 0, []int64{1, 2, 0}, impl.OK}, {pegsWith(70, 60, 65), []int64{60, 60, 60}, 0, []int64{0, 1, 2}, impl.OK}, {pegsWith(70, 60, 65), []int64{65, 60, 60}, 0, []int64{0, 1, 2}, impl.OK}, {pegsWith(70, 60, 65), []int64{60, 65, 65}, 0, []int64{1, 0, 2}, impl.OK}, {pegsWith(70, 60, 65), []int64{70, 70, 60}, 0, nil, impl.ErrNotFound}, {pegsWith(60, 65, 70), []int64{66, 66, 66}, 0, nil, impl.ErrNotFound},
		{pegsWith(27, 26, 25, 24, 23, 22, 21, 20), []int64{20, 21, 22, 23, 24, 25, 26, 27}, 0, []int64{7, 6, 5, 4, 3, 2, 1, 0}, impl.OK}, {pegsWith(27, 26, 25, 24, 23, 22, 21, 20), []int64{20, 20, 20, 20, 20, 20, 20, 28}, 29, nil, impl.ErrNotFound}, {pegsWith(27, 26, 25, 24, 23, 22, 21, 20), []int64{20, 20, 20, 20, 20, 20, 20, 28}, 30, []int64{1, 2, 3, 4, 5, 6, 7, 0}, impl.OK}, {pegsWith(27, 26, 25, 24, 23, 22, 21, 20), []int64{20, 20, 20, 20, 20, 20, 20, 20}, 0, []int64{0, 1, 2, 3, 4, 5, 6, 7}, impl.OK},
		{pegsWith(200, 200), []int64{200, 200}, 0, []int64{0, 1}, impl.OK},
	} {
		checkFit(t, c.list, c.holes, c.way, c.want, c.code)
		checkFitByDefinition(t, ordersOf(len(c.list)), c.list, c.holes, c.way)
	}
}

func TestPromise13FitPegsOrderOfErrors(t *testing.T) {
	list := pegsWith(slices.Repeat([]int64{60}, 8)...)
	for many := range 9 {
		for holes := range 12 {
			told := slices.Repeat([]int64{66}, holes)
			code := int64(impl.OK)
			switch {
			case holes > 8:
				code = impl.ErrRange
			case holes != many:
				code = impl.ErrOrder
			}
			want := []int64{}
			for k := range many {
				if code == impl.OK {
					want = append(want, int64(k))
				}
			}
			checkFit(t, list[:many], told, 200, want, code)
			// Numbers that are not as stated come ahead of too few holes.
			for _, way := range outside(0, 1000) {
				checkFit(t, list[:many], told, way, nil, impl.ErrRange)
			}
			for at := range told {
				for _, wrong := range outside(20, 200) {
					checkFit(t, list[:many], slices.Replace(slices.Clone(told), at, at+1, wrong), 200, nil, impl.ErrRange)
				}
			}
		}
	}
	checkFit(t, list, slices.Repeat([]int64{66}, 1000), 200, nil, impl.ErrRange)
	checkFit(t, nil, slices.Repeat([]int64{66}, 9), 200, nil, impl.ErrRange)
}

// checkReam checks a number that is told, and that it is just enough.
func checkReam(t *testing.T, hole int64, x impl.Peg, way, want, code int64) {
	t.Helper()
	name := fmt.Sprintf("ReamTo of %d for %+v, %d", hole, x, way)
	by, got := impl.ReamTo(hole, x, way)
	same(t, name, []int64{by, got}, []int64{want, code})
	if got != impl.OK {
		return
	}
	in, code := impl.WayIn(x, hole+by)
	same(t, name+" is enough", []any{in >= way, code}, []any{true, int64(impl.OK)})
	if by > 0 {
		in, code = impl.WayIn(x, hole+by-1)
		same(t, name+" is just enough", []any{in < way, code}, []any{true, int64(impl.OK)})
	}
}

// checkReamByDefinition makes a hole wider step by step.
func checkReamByDefinition(t *testing.T, hole int64, x impl.Peg, way int64) int64 {
	t.Helper()
	for wide := hole; wide <= 200; wide++ {
		in := wayOf(x, wide)
		if in[1] != impl.OK {
			break
		}
		if in[0] >= way {
			checkReam(t, hole, x, way, wide-hole, impl.OK)
			return impl.OK
		}
	}
	checkReam(t, hole, x, way, 0, impl.ErrNotFound)
	return impl.ErrNotFound
}

func TestPromise13HolesAreReamedJustEnough(t *testing.T) {
	random := rand.New(rand.NewSource(177))
	seen := map[int64]int{}
	for range 3000 {
		x := randomPeg(random, "p")
		for _, hole := range []int64{20, 20 + random.Int63n(181), min(200, x.Thick+random.Int63n(20)), 200} {
			for _, way := range []int64{0, 1, 1000, random.Int63n(1001), x.Length - random.Int63n(40)} {
				seen[checkReamByDefinition(t, hole, x, way)]++
			}
		}
	}
	checkSeen(t, seen, 1000)
	for hole := int64(20); hole <= 80; hole++ {
		for way := range int64(450) {
			checkReamByDefinition(t, hole, examplePeg, way)
		}
	}
}

func TestPromise13ReamToTellsItsValue(t *testing.T) {
	long := peg("pc", 150, 1000, 10)
	for _, c := range []struct {
		hole            int64
		x               impl.Peg
		way, want, code int64
	}{
		{62, examplePeg, 150, 3, impl.OK}, {62, examplePeg, 151, 4, impl.OK}, {62, examplePeg, 180, 4, impl.OK}, {62, examplePeg, 181, 5, impl.OK}, {62, examplePeg, 401, 0, impl.ErrNotFound},
		// Holes that need no reaming.
		{62, examplePeg, 60, 0, impl.OK}, {62, examplePeg, 59, 0, impl.OK}, {62, examplePeg, 0, 0, impl.OK}, {62, examplePeg, 61, 1, impl.OK}, {65, examplePeg, 150, 0, impl.OK}, {73, examplePeg, 390, 0, impl.OK}, {20, examplePeg, 0, 0, impl.OK}, {60, examplePeg, 0, 0, impl.OK}, {59, examplePeg, 0, 0, impl.OK},
		// A hole that is narrower than the peg is made as wide as it at first.
		{20, examplePeg, 1, 41, impl.OK}, {20, examplePeg, 30, 41, impl.OK}, {20, examplePeg, 31, 42, impl.OK}, {60, examplePeg, 1, 1, impl.OK}, {59, examplePeg, 1, 2, impl.OK},
		// Up to the peg, and beyond it; a hole that is wider than the peg has no way at all.
		{62, examplePeg, 361, 11, impl.OK}, {62, examplePeg, 390, 11, impl.OK}, {62, examplePeg, 391, 0, impl.ErrNotFound}, {62, examplePeg, 400, 0, impl.ErrNotFound}, {73, examplePeg, 391, 0, impl.ErrNotFound}, {73, examplePeg, 0, 0, impl.OK}, {74, examplePeg, 0, 0, impl.ErrNotFound}, {74, examplePeg, 390, 0, impl.ErrNotFound}, {200, examplePeg, 0, 0, impl.ErrNotFound}, {62, examplePeg, 1000, 0, impl.ErrNotFound},
		// Up to MaxHole, and beyond it, where the peg goes on.
		{150, long, 500, 50, impl.OK}, {150, long, 501, 0, impl.ErrNotFound}, {150, long, 491, 50, impl.OK}, {150, long, 490, 49, impl.OK}, {200, long, 500, 0, impl.OK}, {200, long, 501, 0, impl.ErrNotFound}, {199, long, 500, 1, impl.OK}, {20, long, 500, 180, impl.OK}, {20, long, 1000, 0, impl.ErrNotFound},
		{200, peg("a", 200, 1000, 10), 0, 0, impl.OK}, {200, peg("a", 200, 1000, 10), 1, 0, impl.ErrNotFound}, {20, peg("a", 200, 1000, 10), 0, 0, impl.OK}, {20, peg("a", 200, 1000, 10), 1, 0, impl.ErrNotFound}, {20, peg("a", 100, 1000, 10), 1000, 180, impl.OK}, {20, peg("a", 101, 1000, 10), 1000, 0, impl.ErrNotFound}, {20, peg("a", 20, 100, 100), 100, 1, impl.OK}, {20, peg("a", 20, 100, 100), 101, 0, impl.ErrNotFound},
	} {
		checkReam(t, c.hole, c.x, c.way, c.want, c.code)
		same(t, "code by definition", checkReamByDefinition(t, c.hole, c.x, c.way), c.code)
	}
	for _, x := range []impl.Peg{examplePeg, long, peg("a", 20, 100, 100)} {
		for _, hole := range outside(20, 200) {
			for _, way := range []int64{-1, 0, 150, 1000, 1001, hole} {
				checkReam(t, hole, x, way, 0, impl.ErrRange)
			}
		}
		for _, way := range outside(0, 1000) {
			for _, hole := range []int64{20, 62, 74, 200} {
				checkReam(t, hole, x, way, 0, impl.ErrRange)
			}
		}
	}
}
