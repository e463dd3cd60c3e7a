package tests

import (
	"fmt"
	"math"
	"slices"
	"testing"

	"loop.example/g01061/impl"
)

// oddPlanks are planks with each field at its limits, beyond them and far beyond them.
func oddPlanks() []impl.Plank {
	planks := []impl.Plank{{}, plank("p1", 400, 125, 40, 800, 100), plank("q", 1, 1, 1, impl.MaxMass, 1), plank("z", 2000, 2000, 2000, 1, 500)}
	for _, n := range []int64{math.MinInt64, -1, 0, 1, 500, 501, 2000, 2001, 100000, 100001, math.MaxInt64} {
		planks = append(planks, plank("a", n, 125, 40, 800, 100), plank("b", 400, n, 40, 800, 100), plank("c", 400, 125, n, 800, 100),
			plank("d", 400, 125, 40, n, 100), plank("e", 400, 125, 40, 800, n), plank("f", n, n, n, n, n))
	}
	for _, id := range texts {
		planks = append(planks, plank(id, 400, 125, 40, 800, 100))
	}
	return planks
}

var woodNumbers = []int64{math.MinInt64, -1, 0, 1, 40, 125, 400, 2000, 2001, 10000, 10001, 20000, 20001, math.MaxInt64}

func plankCalls() []namedCall {
	var calls []namedCall
	for _, x := range oddPlanks() {
		add := func(name string, call func() []any) {
			calls = append(calls, namedCall{fmt.Sprintf("%s of %s", name, shown(x)), call})
		}
		add("ValidPlank", func() []any { return []any{impl.ValidPlank(x)} })
		add("DensityOf", func() []any { n, code := impl.DensityOf(x); return []any{n, code} })
		add("RingWidth", func() []any { n, code := impl.RingWidth(x); return []any{n, code} })
		add("PlankText", func() []any { return []any{impl.PlankText(x)} })
		for _, y := range oddPlanks()[:20] {
			add("PairGap", func() []any { n, code := impl.PairGap(x, y); return []any{n, code} })
		}
		for _, n := range woodNumbers {
			add("SpeedOf", func() []any { n, code := impl.SpeedOf(x, n); return []any{n, code} })
			for _, m := range woodNumbers {
				add("FitsPiece", func() []any { return []any{impl.FitsPiece(x, n, m, n), impl.FitsPiece(x, m, m, n)} })
				add("PiecesOf", func() []any { count, code := impl.PiecesOf(x, n, m, n); return []any{count, code} })
				add("PiecesOf", func() []any { count, code := impl.PiecesOf(x, n, m, m); return []any{count, code} })
			}
		}
	}
	return calls
}

// plankLists are lists of planks that are valid, too long, out of order or with wrong planks.
func plankLists() [][]impl.Plank {
	lists := [][]impl.Plank{nil, {}, oddPlanks(), {{}}, {{}, {}}, slices.Repeat([]impl.Plank{plank("p1", 400, 125, 40, 800, 100)}, 100000)}
	for many := range 19 {
		list := planksOf(many, 1)
		lists = append(lists, list, slices.Concat(list, []impl.Plank{{}}))
	}
	return append(lists, slices.Concat(planksOf(3, 1), planksOf(3, 1)))
}

func plankListCalls() []namedCall {
	var calls []namedCall
	for k, list := range plankLists() {
		add := func(name string, call func() []any) {
			calls = append(calls, namedCall{fmt.Sprintf("%s of list %d", name, k), call})
		}
		add("ValidPlanks", func() []any { return []any{impl.ValidPlanks(list)} })
		add("BestPair", func() []any { a, b, code := impl.BestPair(list); return []any{a, b, code} })
		for _, n := range woodNumbers {
			add("PairAll", func() []any { pairs, sum, code := impl.PairAll(list, n); return []any{pairs, sum, code} })
			for _, m := range woodNumbers {
				add("LightestFor", func() []any { a, code := impl.LightestFor(list, n, m, n); return []any{a, code} })
				add("LightestFor", func() []any { a, code := impl.LightestFor(list, m, m, n); return []any{a, code} })
			}
		}
	}
	return calls
}

func readPlankCalls() []namedCall {
	var calls []namedCall
	for _, s := range slices.Concat(texts, wrongPlankTexts(), []string{"p1 400,125,40,800,100"}) {
		calls = append(calls, namedCall{fmt.Sprintf("ReadPlank(%s)", shown(s)), func() []any { x, ok := impl.ReadPlank(s); return []any{x, ok} }})
	}
	return calls
}

func TestPromise1WoodsReturnEqualResults(t *testing.T) {
	checkEqualResults(t, slices.Concat(plankCalls(), plankListCalls(), readPlankCalls()))
}

func TestPromise1NilAndEmptyPlanks(t *testing.T) {
	for _, list := range [][]impl.Plank{nil, {}} {
		same(t, "ValidPlanks", impl.ValidPlanks(list), true)
		a, b, code := impl.BestPair(list)
		same(t, "BestPair", []int64{a, b, code}, []int64{0, 0, impl.ErrNotFound})
		pairs, sum, code := impl.PairAll(list, 1)
		same(t, "PairAll", []any{len(pairs), sum, code}, []any{0, int64(0), int64(impl.OK)})
		a, code = impl.LightestFor(list, 1, 1, 1)
		same(t, "LightestFor", []int64{a, code}, []int64{0, impl.ErrNotFound})
	}
}

func TestPromise1WoodsModifyNoArgument(t *testing.T) {
	for _, many := range []int{0, 1, 4, 6, 16, 17} {
		memory := planksOf(20, 3)
		list := memory[:many:20]
		before := slices.Clone(memory)
		impl.ValidPlanks(list)
		impl.BestPair(list)
		impl.PairAll(list, impl.MaxBudget)
		impl.PairAll(list, 2)
		impl.LightestFor(list, 10, 10, 10)
		same(t, fmt.Sprintf("memory of %d planks", many), memory, before)
	}
}

func TestPromise1PairsAreNewMemory(t *testing.T) {
	list := planksOf(6, 4)
	want, _, _ := impl.PairAll(list, impl.MaxBudget)
	want = [][]int64{slices.Clone(want[0]), slices.Clone(want[1]), slices.Clone(want[2])}
	for k := range want {
		pairs, _, _ := impl.PairAll(list, impl.MaxBudget)
		others, _, _ := impl.PairAll(list, impl.MaxBudget)
		spoil(pairs[k], -7)
		same(t, "pairs of another call", others, want)
		for j := range pairs {
			if j != k {
				same(t, "pair beside another one", pairs[j], want[j])
			}
		}
	}
}
