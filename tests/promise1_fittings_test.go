package tests

import (
	"fmt"
	"math"
	"math/rand"
	"slices"
	"testing"

	"loop.example/g01061/impl"
)

// pegNumbers are limits of chapter 12 that are just reached and just passed, and the ends of int64.
var pegNumbers = []int64{math.MinInt64, math.MinInt64 + 1, -1, 0, 1, 9, 10, 19, 20, 66, 99, 100, 101, 200, 201, 500, 501, 1000, 1001, 10000, 10001, 1000000, 1000001, 1 << 32, math.MaxInt64 - 1, math.MaxInt64}

// oddPegs are pegs with each field at its limits, beyond them and far beyond them.
func oddPegs() []impl.Peg {
	pegs := []impl.Peg{{}, examplePeg, peg("a", 20, 100, 10), peg("a", 200, 1000, 100)}
	for _, n := range pegNumbers {
		pegs = append(pegs, peg("a", n, 400, 30), peg("b", 60, n, 30), peg("c", 60, 400, n), peg("d", n, n, n))
	}
	for _, id := range texts {
		pegs = append(pegs, peg(id, 60, 400, 30))
	}
	return pegs
}

// oddPegLists are lists of pegs that are valid, too long, out of order or with wrong pegs.
func oddPegLists() [][]impl.Peg {
	random := rand.New(rand.NewSource(181))
	lists := [][]impl.Peg{nil, {}, {{}}, {{}, {}}, oddPegs(), oddPegs()[:8], slices.Repeat([]impl.Peg{examplePeg}, 100000)}
	for many := range 10 {
		list := randomPegs(random, many)
		lists = append(lists, list, slices.Concat(list, []impl.Peg{{}}), pegsWith(slices.Repeat([]int64{60}, many)...))
	}
	for _, x := range oddPegs() {
		lists = append(lists, []impl.Peg{x}, []impl.Peg{peg("a", 60, 400, 30), x})
	}
	return lists
}

// oddHoles are holes, most of them wrong for most pegs.
func oddHoles() [][]int64 {
	holes := [][]int64{nil, {}, pegNumbers, make([]int64, 100000)}
	for many := range 10 {
		holes = append(holes, slices.Repeat([]int64{66}, many), slices.Repeat([]int64{20}, many), slices.Repeat([]int64{200}, many))
	}
	for _, n := range pegNumbers {
		holes = append(holes, []int64{n}, []int64{66, n})
	}
	return holes
}

func pegCalls() []namedCall {
	var calls []namedCall
	for _, x := range oddPegs() {
		add := func(name string, call func() []any) {
			calls = append(calls, namedCall{name + " of " + shown(x), call})
		}
		add("PegText", func() []any { return []any{impl.PegText(x)} })
		for _, n := range pegNumbers {
			add("PegAt", func() []any { thick, code := impl.PegAt(x, n); return []any{thick, code} })
			add("WayIn", func() []any { way, code := impl.WayIn(x, n); return []any{way, code} })
			for _, other := range pegNumbers {
				add("TurnFor", func() []any { turn, code := impl.TurnFor(x, n, other); return []any{turn, code} })
				add("ReamTo", func() []any { by, code := impl.ReamTo(n, x, other); return []any{by, code} })
			}
		}
	}
	for _, s := range slices.Concat(texts, wrongPegTexts(), []string{"pa 60,400,30"}) {
		call := func() []any { x, ok := impl.ReadPeg(s); return []any{x, ok} }
		calls = append(calls, namedCall{fmt.Sprintf("ReadPeg(%s)", shown(s)), call})
	}
	return calls
}

func pegListCalls() []namedCall {
	var calls []namedCall
	for k, list := range oddPegLists() {
		add := func(name string, call func() []any) {
			calls = append(calls, namedCall{fmt.Sprintf("%s of list %d", name, k), call})
		}
		add("ValidPegs", func() []any { return []any{impl.ValidPegs(list)} })
		for _, n := range pegNumbers {
			add("WearOfPegs", func() []any { wear, code := impl.WearOfPegs(list, n); return []any{wear, code} })
		}
		for _, holes := range oddHoles() {
			for _, way := range []int64{math.MinInt64, -1, 0, 150, 1000, 1001, math.MaxInt64} {
				add("FitPegs", func() []any { given, code := impl.FitPegs(list, holes, way); return []any{given, code} })
			}
		}
	}
	return calls
}

func postCalls() []namedCall {
	var calls []namedCall
	for _, a := range pegNumbers {
		for _, b := range pegNumbers {
			after := func() []any { length, code := impl.AfterLength(a, b); return []any{length, code} }
			ring := func() []any { ring, code := impl.PostRing(a, b); return []any{ring, code} }
			calls = append(calls, namedCall{fmt.Sprintf("AfterLength(%d, %d)", a, b), after}, namedCall{fmt.Sprintf("PostRing(%d, %d)", a, b), ring})
			for _, c := range pegNumbers {
				for _, d := range []int64{math.MinInt64, -1, 0, 100, 101, math.MaxInt64} {
					length := func() []any { length, code := impl.PostLength(a, b, c, d); return []any{length, code} }
					calls = append(calls, namedCall{fmt.Sprintf("PostLength(%d, %d, %d, %d)", a, b, c, d), length})
				}
			}
		}
	}
	random := rand.New(rand.NewSource(182))
	rings := [][][]int64{nil, {}, {nil}, {{}}, oddHoles(), {pegNumbers}, make([][]int64, 100000), {make([]int64, 100000)}}
	for range 100 {
		rings = append(rings, ringsOf(random, 1000), ringsOf(random, 1002))
	}
	for k, some := range rings {
		best := func() []any { row, column, code := impl.BestPost(some); return []any{row, column, code} }
		calls = append(calls, namedCall{fmt.Sprintf("BestPost of rings %d", k), best})
	}
	return calls
}

func TestPromise1FittingsReturnEqualResults(t *testing.T) {
	checkEqualResults(t, slices.Concat(pegCalls(), pegListCalls(), postCalls()))
}

func TestPromise1NilAndEmptyFittings(t *testing.T) {
	for _, list := range [][]impl.Peg{nil, {}} {
		same(t, "ValidPegs", impl.ValidPegs(list), true)
		for _, holes := range [][]int64{nil, {}} {
			checkFit(t, list, holes, 0, nil, impl.OK)
			checkFit(t, list, holes, -1, nil, impl.ErrRange)
			checkFit(t, pegsWith(60), holes, 0, nil, impl.ErrOrder)
		}
		checkFit(t, list, []int64{66}, 0, nil, impl.ErrOrder)
		checkWear(t, list, 1000, nil, impl.OK)
	}
	for _, rings := range [][][]int64{nil, {}, {nil}, {{}}, {{1}, nil}, {{1}, {}}} {
		checkNoPost(t, rings)
	}
}

func TestPromise1FittingsModifyNoArgument(t *testing.T) {
	random := rand.New(rand.NewSource(183))
	for _, many := range []int{0, 1, 2, 7, 8, 9} {
		memory := slices.Concat(randomPegs(random, many), oddPegs())
		numbers := slices.Concat(slices.Repeat([]int64{70}, many), []int64{66, 20, -7})
		before, numbersBefore := slices.Clone(memory), slices.Clone(numbers)
		list, holes := memory[:many], numbers[:many]
		for _, way := range []int64{-1, 0, 30, 200, 1000, 1001} {
			impl.ValidPegs(list)
			impl.FitPegs(list, holes, way)
			impl.FitPegs(list, numbers, way)
			impl.FitPegs(memory, holes, way)
			impl.WearOfPegs(list, way)
			impl.WearOfPegs(memory, way)
		}
		same(t, fmt.Sprintf("memory of %d pegs", many), memory, before)
		same(t, fmt.Sprintf("memory of %d holes", many), numbers, numbersBefore)
	}
	for _, most := range []int64{9, 1000, 1001} {
		memory := slices.Concat(ringsOf(random, most), ringsOf(random, most))
		before := make([][]int64, len(memory))
		for k, row := range memory {
			memory[k] = slices.Concat(row, []int64{7, 8})[:len(row)]
			before[k] = slices.Clone(memory[k][:len(row)+2])
		}
		impl.BestPost(memory[:len(memory)/2])
		impl.BestPost(memory)
		for k, row := range memory {
			same(t, "memory of rings", row[:len(row)+2], before[k])
		}
	}
}

func TestPromise1FittingResultsAreNewMemory(t *testing.T) {
	list, holes := pegsWith(60, 64), []int64{66, 66}
	for name, call := range map[string]func() []int64{
		"FitPegs":            func() []int64 { given, _ := impl.FitPegs(list, holes, 200); return given },
		"FitPegs of none":    func() []int64 { given, _ := impl.FitPegs(nil, nil, 200); return given },
		"WearOfPegs":         func() []int64 { wear, _ := impl.WearOfPegs(list, 1000); return wear },
		"WearOfPegs of none": func() []int64 { wear, _ := impl.WearOfPegs(nil, 1000); return wear },
	} {
		first, second := call(), call()
		want := slices.Clone(second)
		spoil(first, -7)
		same(t, name+" of another call", second, want)
		same(t, name+" of a later call", call(), want)
		same(t, "pegs behind "+name, list, pegsWith(60, 64))
		same(t, "holes behind "+name, holes, []int64{66, 66})
	}
}
