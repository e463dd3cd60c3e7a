package tests

import (
	"fmt"
	"math"
	"math/rand"
	"slices"
	"testing"

	"loop.example/g01061/impl"
)

// wayTo is a way to give the first ribs of a list to strips, with the number of strips that it uses.
type wayTo struct {
	given []int64
	many  int64
}

// waysOf returns all ways to give the first ribs, up to so many, to strips that are first used in
// order; each way comes before those that begin with it, and otherwise they are in order.
func waysOf(ribs int) []wayTo {
	ways := []wayTo{{}}
	var extend func(w wayTo)
	extend = func(w wayTo) {
		if len(w.given) == ribs {
			return
		}
		for number := int64(0); number <= w.many; number++ {
			next := wayTo{slices.Concat(w.given, []int64{number}), max(w.many, number+1)}
			ways = append(ways, next)
			extend(next)
		}
	}
	extend(ways[0])
	return ways
}

// restsOf returns what is left of each strip, which is negative where it is too short.
func restsOf(list []impl.Rib, given []int64, strip, saw int64) []int64 {
	rests := []int64{}
	for number := int64(0); slices.Contains(given, number); number++ {
		rest := strip + saw
		for k, of := range given {
			if of == number {
				rest -= list[k].Length + saw
			}
		}
		rests = append(rests, rest)
	}
	return rests
}

func holdsAll(list []impl.Rib, given []int64, strip, saw int64) bool {
	return len(given) == 0 || slices.Min(restsOf(list, given, strip, saw)) >= 0
}

// cutOf returns the way that CutRibs should find, by looking at all ways, and how many nodes it needs.
func cutOf(list []impl.Rib, ways []wayTo, strip, saw int64) (best wayTo, nodes int64) {
	var holding []wayTo
	best.many = math.MaxInt64
	for _, w := range ways {
		if !holdsAll(list, w.given, strip, saw) {
			continue
		}
		holding = append(holding, w)
		if len(w.given) == len(list) && w.many < best.many {
			best = w
		}
	}
	for _, w := range holding {
		if len(w.given) == 0 {
			continue
		}
		for many := w.many; many < best.many; many++ {
			nodes++
		}
		if w.many <= best.many && slices.Compare(w.given, best.given) <= 0 {
			nodes++
		}
	}
	return best, nodes
}

func checkCut(t *testing.T, list []impl.Rib, strip, saw, budget int64, want wayTo) {
	t.Helper()
	given, many, code := impl.CutRibs(list, strip, saw, budget)
	name := fmt.Sprintf("CutRibs of %v from strips of %d with a saw of %d and %d nodes", lengthsOf(list), strip, saw, budget)
	same(t, name, []any{fmt.Sprint(given), many, code}, []any{fmt.Sprint(want.given), want.many, int64(impl.OK)})
}

func checkCutFails(t *testing.T, list []impl.Rib, strip, saw, budget, want int64) {
	t.Helper()
	given, many, code := impl.CutRibs(list, strip, saw, budget)
	name := fmt.Sprintf("CutRibs of %v from strips of %d with a saw of %d and %d nodes", lengthsOf(list), strip, saw, budget)
	same(t, name, []int64{int64(len(given)), many, code}, []int64{0, 0, want})
}

// checkCutAndBudgets checks CutRibs with a budget that is just enough, and ones around it.
func checkCutAndBudgets(t *testing.T, list []impl.Rib, ways []wayTo, strip, saw int64) {
	t.Helper()
	want, nodes := cutOf(list, ways, strip, saw)
	for _, budget := range []int64{max(nodes, 1), nodes + 1, impl.MaxBudget - 1, impl.MaxBudget} {
		checkCut(t, list, strip, saw, budget, want)
	}
	for _, budget := range []int64{1, nodes / 2, nodes - 1} {
		if 1 <= budget && budget < nodes {
			checkCutFails(t, list, strip, saw, budget, impl.ErrFull)
		}
	}
}

func TestPromise7CutRibsUsesTheFewestStrips(t *testing.T) {
	random := rand.New(rand.NewSource(73))
	for ribs := range impl.MaxRibs + 1 {
		ways := waysOf(ribs)
		rounds := []int{20, 20, 60, 200, 300, 300, 150, 60, 25}[ribs]
		for range rounds {
			longest := 1 + random.Int63n(30)
			list := randomRibs(random, ribs, longest)
			strip := longest + random.Int63n(3*longest)
			checkCutAndBudgets(t, list, ways, strip, random.Int63n(4))
		}
	}
}

func TestPromise7CutRibsAtTheLimits(t *testing.T) {
	eight := waysOf(8)
	for _, c := range []struct {
		lengths    []int64
		strip, saw int64
		many       int64
	}{
		{slices.Repeat([]int64{10000}, 8), 10000, 0, 8}, {slices.Repeat([]int64{10000}, 8), 10000, 100, 8}, {slices.Repeat([]int64{10000}, 8), 80000, 0, 1},
		{slices.Repeat([]int64{10000}, 8), 80699, 100, 2}, {slices.Repeat([]int64{10000}, 8), 80700, 100, 1}, {slices.Repeat([]int64{10000}, 8), 100000, 100, 1},
		{slices.Repeat([]int64{1}, 8), 1, 0, 8}, {slices.Repeat([]int64{1}, 8), 1, 100, 8}, {slices.Repeat([]int64{1}, 8), 101, 100, 8}, {slices.Repeat([]int64{1}, 8), 102, 100, 4},
		{slices.Repeat([]int64{1}, 8), 8, 0, 1}, {slices.Repeat([]int64{1}, 8), 7, 0, 2}, {slices.Repeat([]int64{1}, 8), 100000, 100, 1},
		{[]int64{6, 4, 4, 3, 3, 2, 2, 2}, 13, 0, 2}, {[]int64{9, 8, 7, 6, 5, 4, 3, 2}, 11, 0, 4}, {[]int64{9, 8, 7, 6, 5, 4, 3, 2}, 11, 1, 5},
	} {
		list := ribsWith(c.lengths...)
		want, _ := cutOf(list, eight, c.strip, c.saw)
		same(t, fmt.Sprintf("strips for %v", c), want.many, c.many)
		checkCutAndBudgets(t, list, eight, c.strip, c.saw)
	}
}

func TestPromise7CutRibsTellsItsValue(t *testing.T) {
	for _, c := range []struct {
		lengths           []int64
		strip, saw, nodes int64
		want              wayTo
	}{
		{[]int64{1000, 900, 1200}, 2200, 10, 5, wayTo{[]int64{0, 0, 1}, 2}},
		{nil, 1, 0, 1, wayTo{nil, 0}}, {nil, 100000, 100, 1, wayTo{nil, 0}},
		{[]int64{1}, 1, 100, 1, wayTo{[]int64{0}, 1}}, {[]int64{10000}, 100000, 0, 1, wayTo{[]int64{0}, 1}},
		// The second rib just fits behind a saw, and does not for want of 1.
		{[]int64{50, 40}, 100, 10, 2, wayTo{[]int64{0, 0}, 1}}, {[]int64{50, 40}, 99, 10, 3, wayTo{[]int64{0, 1}, 2}}, {[]int64{50, 41}, 100, 10, 3, wayTo{[]int64{0, 1}, 2}},
		{[]int64{50, 40}, 100, 11, 3, wayTo{[]int64{0, 1}, 2}}, {[]int64{50, 50}, 100, 0, 2, wayTo{[]int64{0, 0}, 1}}, {[]int64{50, 50}, 100, 1, 3, wayTo{[]int64{0, 1}, 2}},
		// No saw is taken behind the last rib of a strip, and one for each other rib.
		{[]int64{30, 30, 30}, 100, 5, 3, wayTo{[]int64{0, 0, 0}, 1}}, {[]int64{30, 30, 30}, 100, 6, 5, wayTo{[]int64{0, 0, 1}, 2}},
		// The first strips would need more of them.
		{[]int64{4, 5, 6, 5}, 10, 0, 8, wayTo{[]int64{0, 1, 0, 1}, 2}},
		{[]int64{3, 6, 4, 7}, 10, 0, 9, wayTo{[]int64{0, 1, 1, 0}, 2}},
	} {
		list := ribsWith(c.lengths...)
		checkCut(t, list, c.strip, c.saw, c.nodes, c.want)
		if c.nodes > 1 {
			checkCutFails(t, list, c.strip, c.saw, c.nodes-1, impl.ErrFull)
		}
	}
}

func TestPromise7CutRibsOrderOfErrors(t *testing.T) {
	list := ribsWith(1000, 900, 1200)
	for _, budget := range []int64{1, 2, impl.MaxBudget} {
		for _, strip := range []int64{1, 899, 999, 1000, 1199} {
			checkCutFails(t, list, strip, 10, budget, impl.ErrState)
		}
	}
	checkCutFails(t, list, 1200, 10, 1, impl.ErrFull)
	checkCut(t, list, 1200, 10, 6, wayTo{[]int64{0, 1, 2}, 3})
	for _, strip := range []int64{math.MinInt64, -1, 0, 100001, math.MaxInt64} {
		checkCutFails(t, list, strip, 10, 1, impl.ErrRange)
		checkCutFails(t, nil, strip, 10, 1, impl.ErrRange)
	}
	for _, saw := range []int64{math.MinInt64, -1, 101, math.MaxInt64} {
		checkCutFails(t, list, 1, saw, 1, impl.ErrRange)
		checkCutFails(t, nil, 1, saw, 1, impl.ErrRange)
	}
	for _, budget := range []int64{math.MinInt64, -1, 0, 20001, math.MaxInt64} {
		checkCutFails(t, nil, 1, 0, budget, impl.ErrRange)
	}
}

// firstOf gives each rib to the first strip in which it has room, by the definition.
func firstOf(list []impl.Rib, strip, saw int64) wayTo {
	var w wayTo
	for k := range list {
		for number := int64(0); len(w.given) == k; number++ {
			tried := slices.Concat(w.given, []int64{number})
			if holdsAll(list, tried, strip, saw) {
				w = wayTo{tried, max(w.many, number+1)}
			}
		}
	}
	return w
}

func checkFirst(t *testing.T, list []impl.Rib, strip, saw int64, want wayTo) {
	t.Helper()
	given, many, code := impl.FirstCuts(list, strip, saw)
	name := fmt.Sprintf("FirstCuts of %v from strips of %d with a saw of %d", lengthsOf(list), strip, saw)
	same(t, name, []any{fmt.Sprint(given), many, code}, []any{fmt.Sprint(want.given), want.many, int64(impl.OK)})
}

func checkFirstFails(t *testing.T, list []impl.Rib, strip, saw, want int64) {
	t.Helper()
	given, many, code := impl.FirstCuts(list, strip, saw)
	name := fmt.Sprintf("FirstCuts of %v from strips of %d with a saw of %d", lengthsOf(list), strip, saw)
	same(t, name, []int64{int64(len(given)), many, code}, []int64{0, 0, want})
}

func TestPromise7FirstCuts(t *testing.T) {
	random := rand.New(rand.NewSource(74))
	for range 5000 {
		longest := 1 + random.Int63n(30)
		list := randomRibs(random, random.Intn(impl.MaxRibs+1), longest)
		strip, saw := longest+random.Int63n(3*longest), random.Int63n(4)
		want := firstOf(list, strip, saw)
		checkFirst(t, list, strip, saw, want)
		_, many, code := impl.CutRibs(list, strip, saw, impl.MaxBudget)
		same(t, "code of CutRibs", code, int64(impl.OK))
		if many > want.many {
			t.Errorf("CutRibs of %v from strips of %d with a saw of %d: %d strips, but the first ones are %d", lengthsOf(list), strip, saw, many, want.many)
		}
	}
}

func TestPromise7FirstCutsTellsItsValue(t *testing.T) {
	checkFirst(t, ribsWith(1000, 900, 1200), 2200, 10, wayTo{[]int64{0, 0, 1}, 2})
	checkFirst(t, ribsWith(4, 5, 6, 5), 10, 0, wayTo{[]int64{0, 0, 1, 2}, 3})
	checkFirst(t, ribsWith(6, 5, 4, 5), 10, 0, wayTo{[]int64{0, 1, 0, 1}, 2})
	checkFirst(t, ribsWith(6, 5, 4, 5), 10, 1, wayTo{[]int64{0, 1, 1, 2}, 3})
	checkFirst(t, nil, 1, 0, wayTo{nil, 0})
	for _, c := range [][3]int64{{1, 1, 0}, {1, 1, 100}, {10000, 10000, 0}, {10000, 10000, 100}} {
		checkFirst(t, ribsWith(slices.Repeat([]int64{c[0]}, 8)...), c[1], c[2], wayTo{[]int64{0, 1, 2, 3, 4, 5, 6, 7}, 8})
	}
	checkFirst(t, ribsWith(slices.Repeat([]int64{10000}, 8)...), 100000, 100, wayTo{make([]int64, 8), 1})
	checkFirst(t, ribsWith(slices.Repeat([]int64{10000}, 8)...), 80699, 100, wayTo{[]int64{0, 0, 0, 0, 0, 0, 0, 1}, 2})
	for _, strip := range []int64{1, 999, 1000, 1199} {
		checkFirstFails(t, ribsWith(1000, 900, 1200), strip, 10, impl.ErrState)
	}
	for _, strip := range []int64{math.MinInt64, -1, 0, 100001, math.MaxInt64} {
		checkFirstFails(t, ribsWith(1000), strip, 10, impl.ErrRange)
		checkFirstFails(t, nil, strip, 10, impl.ErrRange)
	}
	for _, saw := range []int64{math.MinInt64, -1, 101, math.MaxInt64} {
		checkFirstFails(t, ribsWith(1000), 1, saw, impl.ErrRange)
		checkFirstFails(t, nil, 1, saw, impl.ErrRange)
	}
}

// leftOf returns the result of StripsLeft for numbers that are as stated.
func leftOf(list []impl.Rib, given []int64, strip, saw int64) ([]int64, int64) {
	many := int64(0)
	for _, number := range given {
		if number < 0 || number > many {
			return []int64{}, impl.ErrOrder
		}
		many = max(many, number+1)
	}
	switch {
	case len(given) != len(list):
		return []int64{}, impl.ErrOrder
	case !holdsAll(list, given, strip, saw):
		return []int64{}, impl.ErrState
	}
	return restsOf(list, given, strip, saw), impl.OK
}

func checkLeft(t *testing.T, list []impl.Rib, given []int64, strip, saw int64, want []int64, code int64) {
	t.Helper()
	left, got := impl.StripsLeft(list, given, strip, saw)
	name := fmt.Sprintf("StripsLeft of %v by %v from strips of %d with a saw of %d", lengthsOf(list), given, strip, saw)
	same(t, name, []any{fmt.Sprint(left), got}, []any{fmt.Sprint(want), code})
}

func TestPromise7StripsLeft(t *testing.T) {
	random := rand.New(rand.NewSource(75))
	for ribs := range 6 {
		for _, w := range waysOf(ribs) {
			for range 10 {
				longest := 1 + random.Int63n(30)
				list, strip, saw := randomRibs(random, ribs, longest), 1+random.Int63n(4*longest), random.Int63n(4)
				want, code := leftOf(list, w.given, strip, saw)
				checkLeft(t, list, w.given, strip, saw, want, code)
				wrong := slices.Clone(w.given)
				if len(wrong) > 0 {
					wrong[random.Intn(len(wrong))] += random.Int63n(5) - 2
				}
				want, code = leftOf(list, wrong, strip, saw)
				checkLeft(t, list, wrong, strip, saw, want, code)
			}
		}
	}
}

func TestPromise7StripsLeftOfCuts(t *testing.T) {
	random := rand.New(rand.NewSource(76))
	for range 2000 {
		longest := 1 + random.Int63n(30)
		list := randomRibs(random, random.Intn(impl.MaxRibs+1), longest)
		strip, saw := longest+random.Int63n(3*longest), random.Int63n(4)
		fewest, _, _ := impl.CutRibs(list, strip, saw, impl.MaxBudget)
		checkLeft(t, list, fewest, strip, saw, restsOf(list, fewest, strip, saw), impl.OK)
		first, _, _ := impl.FirstCuts(list, strip, saw)
		checkLeft(t, list, first, strip, saw, restsOf(list, first, strip, saw), impl.OK)
	}
}

func TestPromise7StripsLeftTellsItsValue(t *testing.T) {
	list := ribsWith(1000, 900, 1200)
	checkLeft(t, list, []int64{0, 0, 1}, 2200, 10, []int64{290, 1000}, impl.OK)
	checkLeft(t, list, []int64{0, 1, 1}, 2200, 10, []int64{1200, 90}, impl.OK)
	checkLeft(t, list, []int64{0, 1, 2}, 2200, 10, []int64{1200, 1300, 1000}, impl.OK)
	checkLeft(t, list, []int64{0, 1, 0}, 2200, 0, []int64{0, 1300}, impl.OK)
	checkLeft(t, list, []int64{0, 1, 0}, 2200, 1, nil, impl.ErrState)
	checkLeft(t, list, []int64{0, 0, 0}, 2200, 10, nil, impl.ErrState)
	checkLeft(t, list, []int64{0, 0, 0}, 3120, 10, []int64{0}, impl.OK)
	checkLeft(t, list, []int64{0, 0, 0}, 3119, 10, nil, impl.ErrState)
	checkLeft(t, list, []int64{0, 1, 2}, 1200, 100, []int64{200, 300, 0}, impl.OK)
	checkLeft(t, list, []int64{0, 1, 2}, 1199, 100, nil, impl.ErrState)
	checkLeft(t, ribsWith(1), []int64{0}, 1, 100, []int64{0}, impl.OK)
	checkLeft(t, ribsWith(10000), []int64{0}, 100000, 0, []int64{90000}, impl.OK)
	checkLeft(t, ribsWith(slices.Repeat([]int64{10000}, 8)...), []int64{0, 1, 2, 3, 4, 5, 6, 7}, 10000, 100, make([]int64, 8), impl.OK)
	checkLeft(t, nil, nil, 1, 0, nil, impl.OK)
	checkLeft(t, nil, []int64{}, 100000, 100, nil, impl.OK)
}

func TestPromise7StripsLeftRefusesOtherLists(t *testing.T) {
	list := ribsWith(1000, 900, 1200)
	for _, given := range [][]int64{
		nil, {}, {0}, {0, 0}, {0, 0, 1, 1}, {1, 0, 0}, {1, 1, 1}, {0, 2, 1}, {0, 0, 2}, {0, 1, 3}, {-1, 0, 1}, {0, -1, 0}, {0, 0, -1}, {0, 1, -1}, {8, 8, 8}, {0, 1, 8}, {1000, 900, 1200},
		{0, 0, math.MaxInt64}, {math.MaxInt64, 0, 0}, {math.MinInt64, 0, 1}, {0, 1, math.MinInt64}, {math.MaxInt64, math.MinInt64, 0}, make([]int64, 100000),
	} {
		for _, strip := range []int64{1, 1199, 2200, 100000} {
			checkLeft(t, list, given, strip, 10, nil, impl.ErrOrder)
		}
		for _, strip := range []int64{math.MinInt64, -1, 0, 100001, math.MaxInt64} {
			checkLeft(t, list, given, strip, 10, nil, impl.ErrRange)
		}
		for _, saw := range []int64{math.MinInt64, -1, 101, math.MaxInt64} {
			checkLeft(t, list, given, 2200, saw, nil, impl.ErrRange)
		}
		checkLeft(t, ribsWith(1000, 900, 10001), given, 0, -1, nil, impl.ErrInvalid)
	}
	checkLeft(t, nil, []int64{0}, 2200, 10, nil, impl.ErrOrder)
	checkLeft(t, ribsWith(1, 1, 1, 1, 1, 1, 1, 1), []int64{0, 1, 2, 3, 4, 5, 6, 8}, 2200, 10, nil, impl.ErrOrder)
	// A list that is wrong at its end is so even if the first strip is too short.
	checkLeft(t, list, []int64{0, 0, 2}, 1000, 10, nil, impl.ErrOrder)
}
