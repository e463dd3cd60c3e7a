package tests

import (
	"fmt"
	"math"
	"math/rand"
	"slices"
	"testing"

	"loop.example/g01061/impl"
)

// coatNumbers are limits of chapter 13 that are just reached and just passed, and the ends of int64.
var coatNumbers = []int64{math.MinInt64, math.MinInt64 + 1, -1, 0, 1, 2, 9, 10, 11, 255, 256, 365, 366, 765, 766, 1000, 1001, 20000, 20001, 1 << 32, math.MaxInt64 - 1, math.MaxInt64}

// oddColours are colours and lists that are none.
func oddColours() [][]int64 {
	list := [][]int64{nil, {}, {0, 0, 0}, {255, 255, 255}, {100, 80, 0}, {0, 0}, {0, 0, 0, 0}, coatNumbers, make([]int64, 100000)}
	for _, n := range coatNumbers {
		list = append(list, []int64{n}, []int64{n, 0, 255}, []int64{7, 7, n}, []int64{n, n, n})
	}
	return list
}

// oddCoats are coats with each field at its limits, beyond them and far beyond them.
func oddCoats() []impl.Coat {
	coats := []impl.Coat{{}, coat("a", 0, 0, 0, 0, 0), coat("a", 365, 1000, 255, 255, 255), coat("b", 5, 500, 200, 0, 0)}
	for _, n := range coatNumbers {
		coats = append(coats, coat("a", n, 250, 100, 80, 0), coat("b", 3, n, 100, 80, 0), coat("c", n, n, n, n, n))
	}
	for _, colour := range oddColours() {
		coats = append(coats, coat("a", 3, 250, colour...))
	}
	for _, id := range texts {
		coats = append(coats, coat(id, 3, 250, 100, 80, 0))
	}
	return coats
}

// oddCoatLists are lists of coats that are valid, too long, out of order or with wrong coats.
func oddCoatLists() [][]impl.Coat {
	random := rand.New(rand.NewSource(221))
	lists := [][]impl.Coat{nil, {}, {{}}, {{}, {}}, oddCoats(), oddCoats()[:10], slices.Repeat(amberAndRed(), 10000), amberAndRed()}
	for many := range 12 {
		list := randomCoats(random, many)
		lists = append(lists, list, slices.Concat(list, []impl.Coat{{}}), namedCoats(slices.Repeat([]string{"a"}, many)...))
	}
	for _, x := range oddCoats() {
		lists = append(lists, []impl.Coat{x}, []impl.Coat{coat("a", 3, 250, 100, 80, 0), x})
	}
	return lists
}

// oddOrders are orders or parts, most of them wrong for most coats.
func oddOrders() [][]int64 {
	orders := [][]int64{nil, {}, {0}, {1, 0}, {0, 0, 1, 1}, coatNumbers, make([]int64, 100000), {math.MaxInt64, math.MaxInt64}, {math.MinInt64, math.MinInt64}}
	for many := range 12 {
		orders = append(orders, make([]int64, many), slices.Repeat([]int64{1}, many), slices.Repeat([]int64{1000}, many))
	}
	for _, n := range coatNumbers {
		orders = append(orders, []int64{n}, []int64{1, n})
	}
	return orders
}

func coatCalls() []namedCall {
	var calls []namedCall
	for k, x := range oddCoats() {
		add := func(name string, call func() []any) {
			calls = append(calls, namedCall{fmt.Sprintf("%s of coat %d, %s", name, k, shown(x)), call})
		}
		add("CoatText", func() []any { return []any{impl.CoatText(x)} })
		for _, colour := range oddColours()[:30] {
			for _, gap := range coatNumbers {
				add("FewestCoats", func() []any {
					coats, code := impl.FewestCoats(x, colour, []int64{150, 0, 10}, gap)
					other, otherCode := impl.FewestCoats(x, []int64{0, 0, 40}, colour, gap)
					return []any{coats, code, other, otherCode}
				})
			}
		}
	}
	for k, a := range oddColours() {
		for l, b := range oddColours() {
			call := func() []any { gap, code := impl.ColourGap(a, b); return []any{gap, code} }
			calls = append(calls, namedCall{fmt.Sprintf("ColourGap of colours %d and %d", k, l), call})
		}
	}
	for _, s := range slices.Concat(texts, wrongCoatTexts(), []string{"red 5,500 200,0,0"}) {
		call := func() []any { x, ok := impl.ReadCoat(s); return []any{x, ok} }
		calls = append(calls, namedCall{fmt.Sprintf("ReadCoat(%s)", shown(s)), call})
	}
	return calls
}

func coatListCalls() []namedCall {
	var calls []namedCall
	for k, list := range oddCoatLists() {
		add := func(name string, call func() []any) {
			calls = append(calls, namedCall{fmt.Sprintf("%s of list %d", name, k), call})
		}
		add("ValidCoats", func() []any { return []any{impl.ValidCoats(list)} })
		add("StrongestCoat", func() []any { strongest, code := impl.StrongestCoat(list); return []any{strongest, code} })
		for _, order := range oddOrders() {
			add("DryingDays", func() []any { days, code := impl.DryingDays(list, order); return []any{days, code} })
			add("MixColours", func() []any { mixed, code := impl.MixColours(list, order); return []any{mixed, code} })
			for _, ground := range oddColours()[:9] {
				add("ColourAfter", func() []any { after, code := impl.ColourAfter(list, order, ground); return []any{after, code} })
			}
		}
	}
	return calls
}

func bestCoatCalls() []namedCall {
	var calls []namedCall
	lists := oddCoatLists()
	for k, list := range slices.Concat(lists[:50], lists[len(lists)-20:]) {
		add := func(most, budget int64, ground, goal []int64) {
			call := func() []any {
				best, gap, code := impl.BestCoats(list, ground, goal, most, budget)
				return []any{best, gap, code}
			}
			calls = append(calls, namedCall{fmt.Sprintf("BestCoats of list %d, at most %d, budget %d", k, most, budget), call})
		}
		for _, n := range coatNumbers {
			for _, budget := range []int64{math.MinInt64, 0, 1, 40, 300, 20001, math.MaxInt64, n} {
				add(n, budget, []int64{0, 0, 40}, []int64{150, 0, 10})
			}
			add(2, n, []int64{0, 0, 40}, []int64{150, 0, 10})
		}
		for _, colour := range oddColours() {
			add(2, 20000, colour, []int64{150, 0, 10})
			add(2, 20000, []int64{0, 0, 40}, colour)
		}
	}
	return calls
}

func TestPromise1VarnishReturnsEqualResults(t *testing.T) {
	checkEqualResults(t, slices.Concat(coatCalls(), coatListCalls(), bestCoatCalls()))
}

// TestPromise1SearchesOfCoatsAreEqual is here for what might depend on which worker comes first.
func TestPromise1SearchesOfCoatsAreEqual(t *testing.T) {
	random := rand.New(rand.NewSource(222))
	for _, size := range [][2]int64{{2, 10}, {3, 8}, {7, 4}, {10, 3}, {10, 4}} {
		// Many of these coats give the same colours.
		list := randomCoats(random, int(size[0]))
		for k := range list {
			list[k].Cover, list[k].Colour = 500, []int64{int64(k % 3), 0, 0}
		}
		first, firstGap, firstCode := impl.BestCoats(list, []int64{9, 9, 9}, []int64{1, 0, 0}, size[1], 20000)
		same(t, "code of the first search", firstCode, int64(impl.OK))
		for range 50 {
			best, gap, code := impl.BestCoats(list, []int64{9, 9, 9}, []int64{1, 0, 0}, size[1], 20000)
			same(t, fmt.Sprintf("BestCoats of %v again", size), []any{best, gap, code}, []any{first, firstGap, firstCode})
		}
	}
}

func TestPromise1NilAndEmptyVarnish(t *testing.T) {
	ground, goal := []int64{0, 0, 40}, []int64{150, 0, 10}
	for _, list := range [][]impl.Coat{nil, {}} {
		same(t, "ValidCoats", impl.ValidCoats(list), true)
		strongest, code := impl.StrongestCoat(list)
		same(t, "StrongestCoat", []int64{strongest, code}, []int64{0, impl.ErrNotFound})
		checkBest(t, list, ground, goal, 10, 1, nil, 180, impl.OK)
		for _, none := range [][]int64{nil, {}} {
			checkDrying(t, list, none, 0, impl.OK)
			checkAfter(t, list, none, ground, ground, impl.OK)
			checkMix(t, list, none, nil, impl.ErrOrder)
			checkDrying(t, amberAndRed(), none, 0, impl.OK)
			checkAfter(t, amberAndRed(), none, ground, ground, impl.OK)
			checkMix(t, amberAndRed(), none, nil, impl.ErrOrder)
			checkAfter(t, list, none, none, nil, impl.ErrInvalid)
			checkBest(t, list, none, goal, 10, 1, nil, 0, impl.ErrInvalid)
			checkBest(t, list, ground, none, 10, 1, nil, 0, impl.ErrInvalid)
			checkGap(t, none, ground, 0, impl.ErrInvalid)
			checkGap(t, ground, none, 0, impl.ErrInvalid)
			checkFewest(t, amberAndRed()[0], none, goal, 0, 0, impl.ErrInvalid)
			checkFewest(t, amberAndRed()[0], ground, none, 0, 0, impl.ErrInvalid)
			same(t, "ValidCoats without a colour", impl.ValidCoats([]impl.Coat{{Id: "a", Colour: none}}), false)
			same(t, "CoatText without a colour", impl.CoatText(impl.Coat{Id: "a", Colour: none}), "")
		}
		checkDrying(t, list, []int64{0}, 0, impl.ErrOrder)
		checkAfter(t, list, []int64{0}, ground, nil, impl.ErrOrder)
		checkMix(t, list, []int64{1}, nil, impl.ErrOrder)
	}
}

// callWithCoats calls all functions of the chapter.
func callWithCoats(list []impl.Coat, order, parts, ground, goal []int64) {
	impl.ValidCoats(list)
	impl.DryingDays(list, order)
	impl.ColourAfter(list, order, ground)
	impl.ColourGap(ground, goal)
	impl.MixColours(list, parts)
	impl.StrongestCoat(list)
	for _, n := range []int64{-1, 0, 2, 3, 10, 11, 60, 766} {
		impl.BestCoats(list, ground, goal, n, 20000)
		impl.BestCoats(list, ground, goal, 2, n)
		for _, x := range list {
			impl.FewestCoats(x, ground, goal, n)
			impl.CoatText(x)
		}
	}
}

func TestPromise1VarnishModifiesNoArgument(t *testing.T) {
	random := rand.New(rand.NewSource(223))
	// Each list has numbers behind its end, which nobody may write to either.
	roomy := func(list []int64) []int64 { return slices.Concat(list, []int64{7, 8, 9, 10})[:len(list)] }
	for _, many := range []int{0, 1, 2, 9, 10, 11} {
		for _, bad := range []int64{0, 256} {
			memory := slices.Concat(randomCoats(random, many), oddCoats()[:20])
			for k := range memory {
				memory[k].Colour = roomy(memory[k].Colour)
			}
			lists := [][]int64{roomy(make([]int64, many)), roomy(slices.Repeat([]int64{1}, many)), roomy([]int64{0, 0, 40 + bad}), roomy([]int64{150, 0, 10 + bad})}
			before, listsBefore := make([]impl.Coat, len(memory)), make([][]int64, len(lists))
			for k, x := range memory {
				before[k] = x
				before[k].Colour = slices.Clone(x.Colour[:len(x.Colour)+4])
			}
			for k, list := range lists {
				listsBefore[k] = slices.Clone(list[:len(list)+4])
			}
			callWithCoats(memory[:many], lists[0], lists[1], lists[2], lists[3])
			callWithCoats(memory, lists[0], lists[1], lists[2], lists[3])
			for k, x := range memory {
				x.Colour = x.Colour[:len(x.Colour)+4]
				same(t, fmt.Sprintf("coat %d of %d", k, many), x, before[k])
			}
			for k, list := range lists {
				same(t, fmt.Sprintf("list %d beside %d coats", k, many), list[:len(list)+4], listsBefore[k])
			}
		}
	}
}

func TestPromise1VarnishResultsAreNewMemory(t *testing.T) {
	list, order, parts, ground, goal := amberAndRed(), []int64{1, 0}, []int64{1, 3}, []int64{0, 0, 40}, []int64{150, 0, 10}
	one, solid := []int64{1}, coatsWith(1000, 150, 0, 10)
	for name, call := range map[string]func() []int64{
		"ColourAfter":                 func() []int64 { after, _ := impl.ColourAfter(list, order, ground); return after },
		"ColourAfter of no coat":      func() []int64 { after, _ := impl.ColourAfter(list, nil, ground); return after },
		"ColourAfter of a solid coat": func() []int64 { after, _ := impl.ColourAfter(solid, []int64{0}, ground); return after },
		"MixColours":                  func() []int64 { mixed, _ := impl.MixColours(list, parts); return mixed },
		"MixColours of one":           func() []int64 { mixed, _ := impl.MixColours(solid, one); return mixed },
		"BestCoats":                   func() []int64 { best, _, _ := impl.BestCoats(list, ground, goal, 2, 20000); return best },
		"BestCoats of no coat":        func() []int64 { best, _, _ := impl.BestCoats(list, ground, ground, 2, 20000); return best },
		"BestCoats of one coat":       func() []int64 { best, _, _ := impl.BestCoats(solid, ground, goal, 1, 20000); return best },
		"Colour of ReadCoat":          func() []int64 { x, _ := impl.ReadCoat("red 5,500 200,0,0"); return x.Colour },
	} {
		first, second := call(), call()
		want := slices.Clone(second)
		spoil(first, -7)
		same(t, name+" of another call", second, want)
		same(t, name+" of a later call", call(), want)
		same(t, "coats behind "+name, []any{list, solid}, []any{amberAndRed(), coatsWith(1000, 150, 0, 10)})
		same(t, "lists behind "+name, [][]int64{order, parts, ground, goal, one}, [][]int64{{1, 0}, {1, 3}, {0, 0, 40}, {150, 0, 10}, {1}})
	}
}
