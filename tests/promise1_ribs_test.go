package tests

import (
	"fmt"
	"math"
	"math/rand"
	"slices"
	"testing"

	"loop.example/g01061/impl"
)

// ribNumbers are limits of chapter 6 that are just reached and just passed, and the ends of int64.
var ribNumbers = []int64{math.MinInt64, math.MinInt64 + 1, -1, 0, 1, 2, 8, 9, 100, 101, 1000, 1001, 10000, 10001, 20000, 20001, 100000, 100001, math.MaxInt64 - 1, math.MaxInt64}

// oddRibs are ribs with each field at its limits, beyond them and far beyond them.
func oddRibs() []impl.Rib {
	ribs := []impl.Rib{{}, rib("ra", 1000, 300)}
	for _, n := range ribNumbers {
		ribs = append(ribs, rib("a", n, 300), rib("b", 1000, n), rib("c", n, n))
	}
	for _, id := range texts {
		ribs = append(ribs, rib(id, 1000, 300))
	}
	return ribs
}

// ribLists are lists of ribs that are valid, too long, out of order or with wrong ribs.
func ribLists() [][]impl.Rib {
	random := rand.New(rand.NewSource(82))
	lists := [][]impl.Rib{nil, {}, {{}}, {{}, {}}, oddRibs(), oddRibs()[:8], slices.Repeat([]impl.Rib{rib("ra", 1000, 300)}, 100000)}
	for many := range 10 {
		list := randomRibs(random, many, 200)
		lists = append(lists, list, slices.Concat(list, []impl.Rib{{}}), slices.Repeat(ribsWith(10000), many))
	}
	for _, x := range oddRibs() {
		lists = append(lists, []impl.Rib{x}, []impl.Rib{rib("a", 7, 7), x})
	}
	return lists
}

// givenLists are lists of strips, most of them wrong for most ribs.
func givenLists() [][]int64 {
	return [][]int64{nil, {0}, {1}, {0, 0}, {0, 1}, {0, 2}, {-1}, {0, 1, 0, 2, 1, 3, 3, 0}, make([]int64, 8), make([]int64, 9), {math.MaxInt64}, {0, math.MinInt64}, make([]int64, 100000)}
}

func ribCalls() []namedCall {
	var calls []namedCall
	for k, list := range ribLists() {
		add := func(name string, call func() []any) {
			calls = append(calls, namedCall{fmt.Sprintf("%s of list %d", name, k), call})
		}
		add("ValidRibs", func() []any { return []any{impl.ValidRibs(list)} })
		add("RibsLength", func() []any { sum, code := impl.RibsLength(list); return []any{sum, code} })
		for _, n := range ribNumbers {
			add("BlocksAt", func() []any { places, code := impl.BlocksAt(list, n); return []any{places, code} })
			add("MouldGap", func() []any { gap, code := impl.MouldGap(list, n); return []any{gap, code} })
			add("StretchRibs", func() []any { stretched, code := impl.StretchRibs(list, n); return []any{stretched, code} })
			for _, saw := range []int64{math.MinInt64, -1, 0, 3, 100, 101, math.MaxInt64} {
				add("FirstCuts", func() []any { given, many, code := impl.FirstCuts(list, n, saw); return []any{given, many, code} })
				for _, budget := range []int64{math.MinInt64, 0, 1, 9, 20000, 20001, math.MaxInt64} {
					add("CutRibs", func() []any { given, many, code := impl.CutRibs(list, n, saw, budget); return []any{given, many, code} })
				}
			}
			for _, given := range givenLists() {
				add("StripsLeft", func() []any { left, code := impl.StripsLeft(list, given, n, 3); return []any{left, code} })
			}
		}
	}
	return calls
}

func ribNumberCalls() []namedCall {
	var calls []namedCall
	for _, a := range ribNumbers {
		for _, b := range ribNumbers {
			for _, c := range ribNumbers {
				add := func(name string, call func() []any) {
					calls = append(calls, namedCall{fmt.Sprintf("%s(%d, %d, %d)", name, a, b, c), call})
				}
				add("TaperHeights", func() []any { heights, code := impl.TaperHeights(a, b, c); return []any{heights, code} })
				add("BendSteps", func() []any { steps, code := impl.BendSteps(a, b, c); return []any{steps, code} })
				add("LeastBend", func() []any { radius, code := impl.LeastBend(a, b, c); return []any{radius, code} })
			}
		}
	}
	return calls
}

func ribTextCalls() []namedCall {
	var calls []namedCall
	for _, s := range slices.Concat(texts, wrongRibTexts(), []string{"ra 1000,300"}) {
		calls = append(calls, namedCall{fmt.Sprintf("ReadRib(%s)", shown(s)), func() []any { x, ok := impl.ReadRib(s); return []any{x, ok} }})
	}
	for _, x := range oddRibs() {
		calls = append(calls, namedCall{"RibText of " + shown(x), func() []any { return []any{impl.RibText(x)} }})
	}
	return calls
}

func TestPromise1RibsReturnEqualResults(t *testing.T) {
	checkEqualResults(t, slices.Concat(ribCalls(), ribNumberCalls(), ribTextCalls()))
}

func TestPromise1NilAndEmptyRibs(t *testing.T) {
	for _, list := range [][]impl.Rib{nil, {}} {
		same(t, "ValidRibs", impl.ValidRibs(list), true)
		sum, code := impl.RibsLength(list)
		same(t, "RibsLength", []int64{sum, code}, []int64{0, impl.OK})
		given, many, code := impl.CutRibs(list, 1, 0, 1)
		same(t, "CutRibs", []int64{int64(len(given)), many, code}, []int64{0, 0, impl.OK})
		given, many, code = impl.FirstCuts(list, 1, 0)
		same(t, "FirstCuts", []int64{int64(len(given)), many, code}, []int64{0, 0, impl.OK})
		for _, given := range [][]int64{nil, {}} {
			left, code := impl.StripsLeft(list, given, 1, 0)
			same(t, "StripsLeft", []int64{int64(len(left)), code}, []int64{0, impl.OK})
		}
		places, code := impl.BlocksAt(list, 1)
		same(t, "BlocksAt", []int64{int64(len(places)), code}, []int64{0, impl.OK})
		gap, code := impl.MouldGap(list, 5)
		same(t, "MouldGap", []int64{gap, code}, []int64{5, impl.OK})
		stretched, code := impl.StretchRibs(list, 5)
		same(t, "StretchRibs", []int64{int64(len(stretched)), code}, []int64{0, impl.ErrState})
	}
}

func TestPromise1RibsModifyNoArgument(t *testing.T) {
	random := rand.New(rand.NewSource(83))
	for _, many := range []int{0, 1, 3, 7, 8, 9} {
		memory := slices.Concat(randomRibs(random, many, 100), oddRibs())
		numbers := slices.Concat(make([]int64, many), []int64{7, 7, 7})
		before, numbersBefore := slices.Clone(memory), slices.Clone(numbers)
		list, given := memory[:many], numbers[:many]
		for _, strip := range []int64{50, 100, 150, 1000, 100000} {
			impl.ValidRibs(list)
			impl.RibsLength(list)
			impl.CutRibs(list, strip, 3, impl.MaxBudget)
			impl.CutRibs(list, strip, 3, 5)
			impl.FirstCuts(list, strip, 3)
			impl.StripsLeft(list, given, strip, 3)
			impl.BlocksAt(list, 300)
			impl.MouldGap(list, strip)
			impl.StretchRibs(list, strip)
		}
		same(t, fmt.Sprintf("memory of %d ribs", many), memory, before)
		same(t, fmt.Sprintf("memory of %d strips", many), numbers, numbersBefore)
	}
}

func TestPromise1CutsAreNewMemory(t *testing.T) {
	list, given := ribsWith(1000, 900, 1200), []int64{0, 1, 1}
	for name, call := range map[string]func() []int64{
		"CutRibs":      func() []int64 { given, _, _ := impl.CutRibs(list, 2200, 10, 100); return given },
		"FirstCuts":    func() []int64 { given, _, _ := impl.FirstCuts(list, 2200, 10); return given },
		"StripsLeft":   func() []int64 { left, _ := impl.StripsLeft(list, given, 2200, 10); return left },
		"TaperHeights": func() []int64 { heights, _ := impl.TaperHeights(320, 300, 3); return heights },
		"BlocksAt":     func() []int64 { places, _ := impl.BlocksAt(list, 300); return places },
	} {
		first, second := call(), call()
		want := slices.Clone(second)
		spoil(first, -7)
		same(t, name+" of another call", second, want)
		same(t, name+" of a later call", call(), want)
		same(t, "strips behind "+name, given, []int64{0, 1, 1})
	}
}

func TestPromise1StretchedRibsAreNewMemory(t *testing.T) {
	list := ribsWith(1000, 900, 1200)
	before := slices.Clone(list)
	for _, round := range []int64{3100, 3103} {
		first, _ := impl.StretchRibs(list, round)
		second, _ := impl.StretchRibs(list, round)
		want := slices.Clone(second)
		spoil(first, rib("zz", 9, 9))
		same(t, "ribs of another call", second, want)
		same(t, "argument of StretchRibs", list, before)
	}
}
