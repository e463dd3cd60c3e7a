package tests

import (
	"fmt"
	"math"
	"slices"
	"testing"

	"loop.example/g01061/impl"
)

func TestPromise4BestPairHasTheLeastGap(t *testing.T) {
	for seed := range int64(3000) {
		list := planksOf(int(seed%(impl.MaxPlanks+1)), seed)
		want := []int64{0, 0, impl.ErrNotFound}
		for second := range list {
			for first := range second {
				pair := []int64{int64(first), int64(second), impl.OK}
				if want[2] == impl.OK {
					gap, least := gapOf(list[first], list[second]), gapOf(list[want[0]], list[want[1]])
					if gap > least || gap == least && slices.Compare(pair, want) > 0 {
						continue
					}
				}
				want = pair
			}
		}
		first, second, code := impl.BestPair(list)
		same(t, "BestPair of "+shown(list), []int64{first, second, code}, want)
	}
}

func TestPromise4BestPairTellsItsValue(t *testing.T) {
	list := named("a", "b", "c", "d")
	first, second, code := impl.BestPair(list)
	same(t, "BestPair of equal planks", []int64{first, second, code}, []int64{0, 1, impl.OK})
	list[0].Rings, list[1].Mass = 1, 1
	first, second, code = impl.BestPair(list)
	same(t, "BestPair behind others", []int64{first, second, code}, []int64{2, 3, impl.OK})
	first, second, code = impl.BestPair(list[:2])
	same(t, "BestPair of two that differ", []int64{first, second, code}, []int64{0, 1, impl.OK})
	first, second, code = impl.BestPair(list[:1])
	same(t, "BestPair of one", []int64{first, second, code}, []int64{0, 0, impl.ErrNotFound})
}

// nodesOf returns how many nodes the search has for an even number of planks: the beginning, and
// for each first plank as many nodes as there are partners, each with a search of its own.
func nodesOf(planks int) int64 {
	if planks == 0 {
		return 1
	}
	return 1 + int64(planks-1)*nodesOf(planks-2)
}

// allPairings returns all ways to pair planks, in the order in which the search takes them.
func allPairings(rest []int64) [][][]int64 {
	if len(rest) == 0 {
		return [][][]int64{nil}
	}
	var ways [][][]int64
	for k := 1; k < len(rest); k++ {
		for _, way := range allPairings(slices.Concat(rest[1:k], rest[k+1:])) {
			ways = append(ways, slices.Concat([][]int64{{rest[0], rest[k]}}, way))
		}
	}
	return ways
}

func sumOf(list []impl.Plank, pairs [][]int64) int64 {
	sum := int64(0)
	for _, pair := range pairs {
		sum += gapOf(list[pair[0]], list[pair[1]])
	}
	return sum
}

func TestPromise4PairAllHasTheLeastSum(t *testing.T) {
	for many := 0; many <= 10; many += 2 {
		var indices []int64
		for k := range many {
			indices = append(indices, int64(k))
		}
		ways := allPairings(indices)
		for seed := range int64(40) {
			list := planksOf(many, seed)
			best := ways[0]
			for _, way := range ways {
				if sumOf(list, way) < sumOf(list, best) {
					best = way
				}
			}
			pairs, sum, code := impl.PairAll(list, nodesOf(many))
			if len(pairs) == 0 {
				pairs = nil
			}
			same(t, "PairAll of "+shown(list), []any{pairs, sum, code}, []any{best, sumOf(list, best), int64(impl.OK)})
		}
	}
}

func TestPromise4PairAllHasEachPlankOnce(t *testing.T) {
	for seed := range int64(200) {
		list := planksOf(int(seed%6)*2, 1000+seed)
		pairs, _, code := impl.PairAll(list, impl.MaxBudget)
		same(t, "code of PairAll", code, int64(impl.OK))
		var all, firsts []int64
		for _, pair := range pairs {
			if len(pair) != 2 || pair[0] >= pair[1] {
				t.Fatalf("PairAll of %s: pair %v", shown(list), pair)
			}
			all, firsts = append(all, pair...), append(firsts, pair[0])
		}
		slices.Sort(all)
		for k := range list {
			same(t, "planks in pairs", all[k], int64(k))
		}
		same(t, "planks in pairs", len(all), len(list))
		same(t, "firsts in order", slices.IsSorted(firsts), true)
	}
}

func TestPromise4PairAllTellsItsValue(t *testing.T) {
	equal := named("a", "b", "c", "d", "e", "f")
	pairs, sum, code := impl.PairAll(equal, impl.MaxBudget)
	same(t, "PairAll of equal planks", []any{pairs, sum, code}, []any{[][]int64{{0, 1}, {2, 3}, {4, 5}}, int64(0), int64(impl.OK)})
	equal[0].Mass, equal[5].Mass, equal[1].Rings, equal[3].Rings = 100, 110, 50, 51
	pairs, sum, code = impl.PairAll(equal, impl.MaxBudget)
	same(t, "PairAll of planks alike in pairs", []any{pairs, sum, code}, []any{[][]int64{{0, 5}, {1, 3}, {2, 4}}, int64(10), int64(impl.OK)})
}

func checkPairAllFails(t *testing.T, list []impl.Plank, budget, want int64) {
	t.Helper()
	pairs, sum, code := impl.PairAll(list, budget)
	same(t, fmt.Sprintf("PairAll of %d planks with %d nodes", len(list), budget), []any{len(pairs), sum, code}, []any{0, int64(0), want})
}

func TestPromise4PairAllBudgets(t *testing.T) {
	same(t, "nodes", []int64{nodesOf(0), nodesOf(2), nodesOf(4), nodesOf(6), nodesOf(8), nodesOf(10), nodesOf(12)}, []int64{1, 2, 7, 36, 253, 2278, 25059})
	for many := 0; many <= impl.MaxPlanks; many += 2 {
		list, nodes := planksOf(many, 2), nodesOf(many)
		for _, budget := range []int64{1, 2, nodes - 1, nodes, nodes + 1, impl.MaxBudget - 1, impl.MaxBudget} {
			if budget < 1 || budget > impl.MaxBudget {
				continue
			}
			if budget < nodes {
				checkPairAllFails(t, list, budget, impl.ErrFull)
			} else if _, _, code := impl.PairAll(list, budget); code != impl.OK {
				t.Errorf("PairAll of %d planks with %d nodes: got %d", many, budget, code)
			}
		}
		for _, budget := range []int64{math.MinInt64, -1, 0, impl.MaxBudget + 1, 25059, math.MaxInt64} {
			checkPairAllFails(t, list, budget, impl.ErrRange)
		}
	}
}

func TestPromise4PairAllOrderOfErrors(t *testing.T) {
	for many := 1; many < impl.MaxPlanks; many += 2 {
		for _, budget := range []int64{1, 2, 7, impl.MaxBudget} {
			checkPairAllFails(t, planksOf(many, 3), budget, impl.ErrState)
		}
		for _, budget := range []int64{math.MinInt64, 0, impl.MaxBudget + 1} {
			checkPairAllFails(t, planksOf(many, 3), budget, impl.ErrRange)
			checkPairAllFails(t, append(planksOf(many, 3), impl.Plank{}), budget, impl.ErrInvalid)
		}
	}
	checkPairAllFails(t, planksOf(impl.MaxPlanks+1, 3), 1, impl.ErrInvalid)
}
