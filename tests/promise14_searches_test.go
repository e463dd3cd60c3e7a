package tests

import (
	"fmt"
	"math/rand"
	"slices"
	"testing"

	"loop.example/g01061/impl"
)

func checkFewest(t *testing.T, x impl.Coat, ground, goal []int64, gap, want, code int64) {
	t.Helper()
	coats, got := impl.FewestCoats(x, ground, goal, gap)
	same(t, fmt.Sprintf("FewestCoats of %s, %v to %v, %d", shown(x), ground, goal, gap), []int64{coats, got}, []int64{want, code})
}

// layersOf are the colours of no coat, of one, and so on up to eleven, which is one too many.
func layersOf(x impl.Coat, ground []int64) [][]int64 {
	layers := [][]int64{ground}
	for range impl.MaxCoats + 1 {
		layers = append(layers, overIn(x, layers[len(layers)-1]))
	}
	return layers
}

// checkFewestByDefinition adds coat by coat.
func checkFewestByDefinition(t *testing.T, x impl.Coat, ground, goal []int64, gap int64) int64 {
	t.Helper()
	layers := layersOf(x, ground)
	want := leastOf(impl.MaxCoats, func(coats int64) bool { return gapIn(layers[coats], goal) <= gap })
	checkFewest(t, x, ground, goal, gap, want[0], want[1])
	return want[1]
}

func TestPromise14FewestCoats(t *testing.T) {
	random := rand.New(rand.NewSource(211))
	seen, many := map[int64]int{}, map[int64]int{}
	for range 5000 {
		x, ground := coat("a", 3, randomCover(random), randomColour(random)...), randomColour(random)
		coats := random.Int63n(12)
		goal := layersOf(x, ground)[coats]
		for _, gap := range []int64{0, 1, 765, random.Int63n(20), random.Int63n(766)} {
			seen[checkFewestByDefinition(t, x, ground, goal, gap)]++
			seen[checkFewestByDefinition(t, x, ground, randomColour(random), gap)]++
		}
		found, _ := impl.FewestCoats(x, ground, goal, 0)
		many[found]++
	}
	checkSeen(t, seen, 1000)
	for coats := range int64(impl.MaxCoats + 1) {
		if many[coats] < 30 {
			t.Errorf("too few tests with %d coats: %d", coats, many[coats])
		}
	}
}

func TestPromise14FewestCoatsTellsItsValue(t *testing.T) {
	red, ground := amberAndRed()[1], []int64{0, 0, 40}
	for _, c := range []struct {
		goal            []int64
		gap, want, code int64
	}{
		{[]int64{200, 0, 0}, 60, 2, impl.OK}, {[]int64{200, 0, 0}, 59, 3, impl.OK}, {[]int64{200, 0, 0}, 119, 2, impl.OK}, {[]int64{200, 0, 0}, 120, 1, impl.OK}, {[]int64{200, 0, 0}, 239, 1, impl.OK}, {[]int64{200, 0, 0}, 240, 0, impl.OK}, {[]int64{200, 0, 0}, 765, 0, impl.OK},
		{[]int64{200, 200, 0}, 60, 0, impl.ErrNotFound}, {[]int64{200, 200, 0}, 766, 0, impl.ErrRange}, {[]int64{200, 200, 0}, 765, 0, impl.OK}, {[]int64{200, 200, 0}, 260, 2, impl.OK},
		// The ground itself, and colours that are passed on the way and left again.
		{[]int64{0, 0, 40}, 0, 0, impl.OK}, {[]int64{100, 0, 20}, 0, 1, impl.OK}, {[]int64{150, 0, 10}, 0, 2, impl.OK}, {[]int64{175, 0, 5}, 0, 3, impl.OK}, {[]int64{100, 0, 21}, 0, 0, impl.ErrNotFound}, {[]int64{100, 0, 21}, 1, 1, impl.OK}, {[]int64{99, 0, 20}, 0, 0, impl.ErrNotFound},
		// 200, 0, 1 is reached with eight coats, and kept, because a half is rounded up.
		{[]int64{200, 0, 1}, 0, 8, impl.OK}, {[]int64{200, 0, 1}, 1, 7, impl.OK}, {[]int64{200, 0, 0}, 0, 0, impl.ErrNotFound}, {[]int64{200, 0, 0}, 1, 8, impl.OK},
	} {
		checkFewest(t, red, ground, c.goal, c.gap, c.want, c.code)
	}
	for _, gap := range outside(0, 765) {
		for _, goal := range [][]int64{ground, {200, 0, 0}, {200, 200, 0}} {
			checkFewest(t, red, ground, goal, gap, 0, impl.ErrRange)
		}
	}
	// 10, 20, 29, 38, 46, 54, 61, 68, 75 and 81, and with one coat too many 87.
	thin := coat("a", 3, 50, 200, 200, 200)
	checkFewest(t, thin, []int64{0, 0, 0}, []int64{81, 81, 81}, 0, 10, impl.OK)
	checkFewest(t, thin, []int64{0, 0, 0}, []int64{75, 75, 75}, 0, 9, impl.OK)
	checkFewest(t, thin, []int64{0, 0, 0}, []int64{87, 87, 87}, 0, 0, impl.ErrNotFound)
	checkFewest(t, thin, []int64{0, 0, 0}, []int64{87, 87, 87}, 17, 0, impl.ErrNotFound)
	checkFewest(t, thin, []int64{0, 0, 0}, []int64{87, 87, 87}, 18, 10, impl.OK)
	checkFewest(t, thin, []int64{0, 0, 0}, []int64{87, 87, 87}, 35, 10, impl.OK)
	checkFewest(t, thin, []int64{0, 0, 0}, []int64{87, 87, 87}, 36, 9, impl.OK)
	// A coat that covers nothing does not change the ground, and one that covers all is enough.
	checkFewest(t, coat("a", 3, 0, 200, 200, 200), []int64{0, 0, 0}, []int64{1, 0, 0}, 0, 0, impl.ErrNotFound)
	checkFewest(t, coat("a", 3, 0, 200, 200, 200), []int64{0, 0, 0}, []int64{1, 0, 0}, 1, 0, impl.OK)
	checkFewest(t, coat("a", 3, 1000, 200, 200, 200), []int64{0, 0, 0}, []int64{200, 200, 200}, 0, 1, impl.OK)
	checkFewest(t, coat("a", 3, 1000, 255, 255, 255), []int64{0, 0, 0}, []int64{255, 255, 255}, 764, 1, impl.OK)
	checkFewest(t, coat("a", 3, 1000, 255, 255, 255), []int64{0, 0, 0}, []int64{255, 255, 255}, 765, 0, impl.OK)
}

func checkBest(t *testing.T, list []impl.Coat, ground, goal []int64, most, budget int64, want []int64, gap, code int64) {
	t.Helper()
	best, gotGap, got := impl.BestCoats(list, ground, goal, most, budget)
	name := fmt.Sprintf("BestCoats of %s, %v to %v, at most %d, budget %d", shown(list), ground, goal, most, budget)
	same(t, name, []any{fmt.Sprint(best), gotGap, got}, []any{fmt.Sprint(want), gap, code})
}

// coatOrders are all orders of at most so many coats, in the order of the search: an order comes
// just ahead of all that begin with it, as in a dictionary.
func coatOrders(coats int, most int64) [][]int64 {
	orders, longest := [][]int64{{}}, [][]int64{{}}
	for range most {
		longer := [][]int64{}
		for _, order := range longest {
			for k := range int64(coats) {
				longer = append(longer, slices.Concat(order, []int64{k}))
			}
		}
		orders, longest = append(orders, longer...), longer
	}
	slices.SortFunc(orders, slices.Compare[[]int64])
	return orders
}

// checkBestTells checks the order that is found, that it has the gap, and that it needs just so many nodes.
func checkBestTells(t *testing.T, list []impl.Coat, ground, goal []int64, most int64, want []int64, gap, nodes int64) {
	t.Helper()
	for _, budget := range []int64{nodes, nodes + 1, 19999, 20000} {
		if nodes <= budget && budget <= 20000 {
			checkBest(t, list, ground, goal, most, budget, want, gap, impl.OK)
		}
	}
	for _, budget := range []int64{1, nodes / 2, nodes - 1} {
		if 1 <= budget && budget < nodes {
			checkBest(t, list, ground, goal, most, budget, nil, 0, impl.ErrFull)
		}
	}
	after, code := impl.ColourAfter(list, want, ground)
	same(t, "ColourAfter of the best order", code, int64(impl.OK))
	checkGap(t, after, goal, gap, impl.OK)
}

// checkBestByDefinition looks at all orders, and returns how many of them are as near as the first one.
func checkBestByDefinition(t *testing.T, orders [][]int64, list []impl.Coat, ground, goal []int64, most int64) int {
	t.Helper()
	best, least, many := []int64{}, int64(766), 0
	colours := map[string][]int64{"[]": ground}
	for _, order := range orders {
		// The order without its last coat comes ahead of it.
		if last := len(order) - 1; last >= 0 {
			colours[fmt.Sprint(order)] = overIn(list[order[last]], colours[fmt.Sprint(order[:last])])
		}
		switch gap := gapIn(colours[fmt.Sprint(order)], goal); {
		case gap < least:
			best, least, many = order, gap, 1
		case gap == least:
			many++
		}
	}
	checkBestTells(t, list, ground, goal, most, best, least, int64(len(orders)))
	return many
}

func TestPromise14NoOrderComesNearer(t *testing.T) {
	random := rand.New(rand.NewSource(212))
	one, several, long := 0, 0, 0
	for coats := range impl.MaxCoats + 1 {
		for most := range int64(impl.MaxCoats + 1) {
			nodes := searchNodes(coats, most)
			if nodes > 400 {
				continue
			}
			orders := coatOrders(coats, most)
			for range 20 {
				list := randomCoats(random, coats)
				ground, goal := randomColour(random), randomColour(random)
				if random.Intn(2) == 0 {
					// A goal that can be reached is often reached in several ways.
					goal, _ = impl.ColourAfter(list, orders[random.Intn(len(orders))], ground)
				}
				if checkBestByDefinition(t, orders, list, ground, goal, most) > 1 {
					several++
				} else {
					one++
				}
				if best, _, _ := impl.BestCoats(list, ground, goal, most, 20000); len(best) > 1 {
					long++
				}
			}
		}
	}
	if min(one, several, long) < 100 {
		t.Errorf("too few tests of a kind: %d with one order, %d with several, %d with more than one coat", one, several, long)
	}
}

// searchNodes is how many orders of at most so many of some coats there are.
func searchNodes(coats int, most int64) int64 {
	nodes, longest := int64(1), int64(1)
	for range most {
		longest *= int64(coats)
		nodes += longest
	}
	return nodes
}

func TestPromise14LongSearches(t *testing.T) {
	random := rand.New(rand.NewSource(213))
	for _, size := range [][3]int64{{1, 10, 11}, {2, 10, 2047}, {3, 8, 9841}, {4, 6, 5461}, {5, 6, 19531}, {6, 5, 9331}, {7, 5, 19608}, {8, 4, 4681}, {9, 4, 7381}, {10, 4, 11111}} {
		orders := coatOrders(int(size[0]), size[1])
		same(t, fmt.Sprintf("number of orders of %v", size), int64(len(orders)), size[2])
		list := randomCoats(random, int(size[0]))
		checkBestByDefinition(t, orders, list, randomColour(random), randomColour(random), size[1])
		// Goals that only one of the last orders, or of the first ones, reaches.
		for _, order := range [][]int64{orders[len(orders)-1], orders[len(orders)/2], orders[size[1]]} {
			ground := []int64{0, 255, 100}
			goal, _ := impl.ColourAfter(list, order, ground)
			checkBestByDefinition(t, orders, list, ground, goal, size[1])
		}
	}
}

func TestPromise14SearchesBeyondAnyBudget(t *testing.T) {
	random := rand.New(rand.NewSource(214))
	for coats := range impl.MaxCoats + 1 {
		list := randomCoats(random, coats)
		for most := range int64(impl.MaxCoats + 1) {
			nodes := searchNodes(coats, most)
			for _, budget := range []int64{1, 2, 11, 12, 2047, 19999, 20000} {
				if nodes > budget {
					checkBest(t, list, []int64{0, 0, 40}, []int64{150, 0, 10}, most, budget, nil, 0, impl.ErrFull)
					checkBest(t, list, []int64{0, 0, 40}, []int64{0, 0, 40}, most, budget, nil, 0, impl.ErrFull)
				}
			}
		}
	}
}

func TestPromise14BestCoatsTellsItsValue(t *testing.T) {
	white, black, grey := []int64{255, 255, 255}, []int64{0, 0, 0}, []int64{100, 100, 100}
	solid := coatsWith(1000, 0, 0, 0, 1000, 100, 100, 100, 1000, 255, 255, 255)
	for _, c := range []struct {
		list         []impl.Coat
		ground, goal []int64
		most         int64
		want         []int64
		gap, nodes   int64
	}{
		{amberAndRed(), []int64{0, 0, 40}, []int64{150, 0, 10}, 2, []int64{1, 1}, 0, 7}, {amberAndRed(), []int64{0, 0, 40}, []int64{150, 0, 10}, 1, []int64{1}, 60, 3}, {amberAndRed(), []int64{0, 0, 40}, []int64{150, 0, 10}, 0, nil, 180, 1}, {amberAndRed(), []int64{0, 0, 40}, []int64{100, 20, 15}, 2, []int64{1, 0}, 0, 7}, {amberAndRed(), []int64{0, 0, 40}, []int64{113, 10, 15}, 2, []int64{0, 1}, 0, 7}, {amberAndRed(), []int64{0, 0, 40}, []int64{0, 0, 40}, 2, nil, 0, 7}, {amberAndRed(), []int64{0, 0, 40}, []int64{157, 5, 8}, 3, []int64{0, 1, 1}, 0, 15}, {amberAndRed(), []int64{0, 0, 40}, []int64{138, 20, 8}, 3, []int64{1, 1, 0}, 0, 15},
		// No coats at all: one order, whatever most is.
		{nil, black, white, 0, nil, 765, 1}, {nil, black, white, 10, nil, 765, 1}, {nil, grey, grey, 10, nil, 0, 1}, {[]impl.Coat{}, white, grey, 3, nil, 465, 1},
		// No coat is needed, and none helps.
		{solid, grey, grey, 3, nil, 0, 40}, {coatsWith(1000, 255, 255, 255), black, []int64{1, 0, 0}, 10, nil, 1, 11}, {coatsWith(0, 255, 255, 255, 0, 0, 0, 0), grey, white, 3, nil, 465, 15},
		// A shorter order counts ahead of those that follow from it, but not ahead of all that are longer.
		{solid, white, black, 3, []int64{0}, 0, 40}, {solid, white, black, 1, []int64{0}, 0, 4}, {solid, white, grey, 1, []int64{1}, 0, 4}, {solid, white, grey, 2, []int64{0, 1}, 0, 13}, {solid, white, grey, 3, []int64{0, 0, 1}, 0, 40}, {solid, grey, white, 4, []int64{0, 0, 0, 2}, 0, 121}, {solid, grey, white, 1, []int64{2}, 0, 4}, {solid[:2], white, grey, 10, []int64{0, 0, 0, 0, 0, 0, 0, 0, 0, 1}, 0, 2047}, {solid[1:], white, grey, 10, []int64{0}, 0, 2047}, {solid[1:], black, white, 2, []int64{0, 1}, 0, 7},
		// Several coats that are equal but for their Ids: the first one counts.
		{coatsWith(500, 200, 0, 0, 500, 200, 0, 0, 500, 200, 0, 0), black, []int64{150, 0, 0}, 2, []int64{0, 0}, 0, 13}, {coatsWith(500, 200, 0, 0, 500, 200, 0, 0), black, []int64{100, 0, 0}, 3, []int64{0}, 0, 15}, {coatsWith(0, 9, 9, 9, 500, 200, 0, 0, 500, 200, 0, 0), black, []int64{100, 0, 0}, 1, []int64{1}, 0, 4}, {coatsWith(0, 9, 9, 9, 500, 200, 0, 0, 500, 200, 0, 0), black, []int64{100, 0, 0}, 2, []int64{0, 1}, 0, 13},
		// As far off on both sides of the goal.
		{coatsWith(500, 90, 0, 0, 500, 110, 0, 0), black, []int64{50, 0, 0}, 1, []int64{0}, 5, 3}, {coatsWith(500, 110, 0, 0, 500, 90, 0, 0), black, []int64{50, 0, 0}, 1, []int64{0}, 5, 3}, {coatsWith(500, 20, 0, 0, 500, 0, 20, 0), black, []int64{0, 0, 0}, 2, nil, 0, 7}, {coatsWith(500, 20, 0, 0, 500, 0, 20, 0), black, []int64{5, 5, 0}, 1, nil, 10, 3}, {coatsWith(500, 20, 0, 0, 500, 0, 20, 0), black, []int64{10, 10, 0}, 2, []int64{0, 1}, 5, 7},
		// As many coats as there may be.
		{coatsWith(50, 200, 200, 200), black, []int64{81, 81, 81}, 10, slices.Repeat([]int64{0}, 10), 0, 11}, {coatsWith(50, 200, 200, 200), black, white, 10, slices.Repeat([]int64{0}, 10), 522, 11}, {coatsWith(50, 200, 200, 200), black, white, 9, slices.Repeat([]int64{0}, 9), 540, 10}, {coatsWith(50, 200, 200, 200), black, []int64{54, 54, 54}, 10, slices.Repeat([]int64{0}, 6), 0, 11}, {coatsWith(50, 200, 200, 200), black, []int64{57, 58, 57}, 10, slices.Repeat([]int64{0}, 6), 10, 11}, {coatsWith(50, 200, 200, 200), black, []int64{58, 57, 58}, 10, slices.Repeat([]int64{0}, 7), 10, 11}, {coatsWith(50, 200, 200, 200), black, []int64{42, 42, 42}, 10, slices.Repeat([]int64{0}, 4), 12, 11},
	} {
		checkBestTells(t, c.list, c.ground, c.goal, c.most, c.want, c.gap, c.nodes)
		checkBestByDefinition(t, coatOrders(len(c.list), c.most), c.list, c.ground, c.goal, c.most)
	}
}

func TestPromise14BestCoatsOrderOfErrors(t *testing.T) {
	random := rand.New(rand.NewSource(215))
	ground, goal := []int64{0, 0, 40}, []int64{150, 0, 10}
	for _, list := range [][]impl.Coat{nil, amberAndRed(), randomCoats(random, 10)} {
		for _, most := range outside(0, 10) {
			for _, budget := range []int64{-1, 0, 1, 7, 20000, 20001} {
				checkBest(t, list, ground, goal, most, budget, nil, 0, impl.ErrRange)
			}
		}
		for _, budget := range outside(1, 20000) {
			for _, most := range []int64{-1, 0, 2, 10, 11} {
				checkBest(t, list, ground, goal, most, budget, nil, 0, impl.ErrRange)
			}
		}
	}
	// Too few nodes are told although the ground is the goal already.
	checkBest(t, amberAndRed(), ground, ground, 2, 6, nil, 0, impl.ErrFull)
	checkBest(t, amberAndRed(), ground, ground, 2, 7, nil, 0, impl.OK)
}
