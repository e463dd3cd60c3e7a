package tests

import (
	"fmt"
	"math"
	"math/rand"
	"slices"
	"testing"

	"loop.example/g01061/impl"
)

// bowNumbers are limits of chapter 11 that are just reached and just passed, and the ends of int64.
var bowNumbers = []int64{math.MinInt64, math.MinInt64 + 1, -8001, -8000, -1, 0, 1, 300, 7999, 8000, 8001, 99999, 100000, 100001, 1 << 32, 1<<32 + 1, math.MaxInt64 - 1, math.MaxInt64}

// oddParts are parts with each field at its limits, beyond them and far beyond them.
func oddParts() []impl.Part {
	parts := []impl.Part{{}, part("frog", 50, 18000)}
	for _, n := range bowNumbers {
		parts = append(parts, part("a", n, 18000), part("b", 50, n), part("c", n, n))
	}
	for _, id := range texts {
		parts = append(parts, part(id, 50, 18000))
	}
	return parts
}

// oddBows are bows that are valid, too long, out of order or with wrong parts.
func oddBows() [][]impl.Part {
	random := rand.New(rand.NewSource(169))
	bows := [][]impl.Part{nil, {}, {{}}, {{}, {}}, oddParts(), oddParts()[:12], fullBow(), slices.Repeat(fullBow(), 30000)}
	for many := range 15 {
		list := randomBow(random, many, 8000, 100000)
		bows = append(bows, list, slices.Concat(list, []impl.Part{{}}), bowAt(slices.Repeat([]int64{8000, 100000}, many)...), bowAt(slices.Repeat([]int64{0, 1}, many)...))
	}
	for _, x := range oddParts() {
		bows = append(bows, []impl.Part{x}, []impl.Part{part("a", 7, 7), x})
	}
	return bows
}

func bowCalls() []namedCall {
	var calls []namedCall
	for k, list := range oddBows() {
		add := func(name string, call func() []any) {
			calls = append(calls, namedCall{fmt.Sprintf("%s of bow %d", name, k), call})
		}
		add("ValidBow", func() []any { return []any{impl.ValidBow(list)} })
		add("BowMass", func() []any { mass, code := impl.BowMass(list); return []any{mass, code} })
		add("BalanceOf", func() []any { place, code := impl.BalanceOf(list); return []any{place, code} })
		add("HeaviestPart", func() []any { index, code := impl.HeaviestPart(list); return []any{index, code} })
		for _, id := range []string{"", "a", "frog", "p00000", "p00002", "none", "A"} {
			add("WithoutPart", func() []any { rest, code := impl.WithoutPart(list, id); return []any{rest, code} })
			for _, n := range bowNumbers {
				add("MovedPart", func() []any { at, code := impl.MovedPart(list, id, n); return []any{at, code} })
			}
		}
		for _, n := range bowNumbers {
			add("InertiaOf", func() []any { inertia, code := impl.InertiaOf(list, n); return []any{inertia, code} })
			for _, balance := range bowNumbers {
				add("AddedMass", func() []any { mass, code := impl.AddedMass(list, n, balance); return []any{mass, code} })
			}
		}
	}
	return calls
}

// oddSticks are heights of sticks at their limits, beyond them and far beyond them.
func oddSticks() [][]int64 {
	sticks := [][]int64{nil, {}, bowNumbers, make([]int64, 100000)}
	for _, n := range bowNumbers {
		for _, many := range []int{1, 2, 3, 4, 63, 64, 65} {
			level, last := slices.Repeat([]int64{n}, many), make([]int64, many)
			last[many-1] = n
			sticks = append(sticks, level, last)
		}
	}
	return sticks
}

func stickCalls() []namedCall {
	var calls []namedCall
	for k, heights := range oddSticks() {
		camber := func() []any { place, depth, code := impl.CamberOf(heights); return []any{place, depth, code} }
		gap := func() []any { gap, code := impl.CamberGap(heights); return []any{gap, code} }
		calls = append(calls, namedCall{fmt.Sprintf("CamberOf of stick %d", k), camber}, namedCall{fmt.Sprintf("CamberGap of stick %d", k), gap})
	}
	return calls
}

func partTextCalls() []namedCall {
	var calls []namedCall
	for _, s := range slices.Concat(texts, wrongPartTexts(), []string{"frog 18000@50"}) {
		calls = append(calls, namedCall{fmt.Sprintf("ReadPart(%s)", shown(s)), func() []any { x, ok := impl.ReadPart(s); return []any{x, ok} }})
	}
	for _, x := range oddParts() {
		calls = append(calls, namedCall{"PartText of " + shown(x), func() []any { return []any{impl.PartText(x)} }})
	}
	return calls
}

func TestPromise1BowsReturnEqualResults(t *testing.T) {
	checkEqualResults(t, slices.Concat(bowCalls(), stickCalls(), partTextCalls()))
}

func TestPromise1NilAndEmptyBows(t *testing.T) {
	checkInvalidBow(t, nil)
	checkInvalidBow(t, []impl.Part{})
	checkNoStick(t, nil)
	checkNoStick(t, []int64{})
}

// callWithBow calls all functions with a bow, so that each of them finds something and nothing.
func callWithBow(list []impl.Part, id string) {
	impl.ValidBow(list)
	impl.BowMass(list)
	impl.BalanceOf(list)
	impl.HeaviestPart(list)
	impl.WithoutPart(list, id)
	for _, n := range []int64{-1, 0, 307, 8000} {
		impl.InertiaOf(list, n)
		impl.MovedPart(list, id, n)
		impl.AddedMass(list, n, 307)
		impl.AddedMass(list, 8000, n)
	}
}

func TestPromise1BowsModifyNoArgument(t *testing.T) {
	random := rand.New(rand.NewSource(170))
	for _, many := range []int{0, 1, 2, 3, 11, 12, 13} {
		memory := slices.Concat(randomBow(random, many, 700, 30000), oddParts())
		before := slices.Clone(memory)
		for _, list := range [][]impl.Part{memory[:many], memory} {
			callWithBow(list, "none")
			for _, x := range before[:many] {
				callWithBow(list, x.Id)
			}
		}
		same(t, fmt.Sprintf("memory of %d parts", many), memory, before)
	}
	for _, length := range []int{0, 2, 3, 9, 64, 65} {
		heights, memory := spare(length, 80)
		before := slices.Clone(memory)
		impl.CamberOf(heights)
		impl.CamberGap(heights)
		same(t, fmt.Sprintf("memory of %d heights", length), memory, before)
	}
}

func TestPromise1PartsThatAreLeftAreNewMemory(t *testing.T) {
	for _, id := range []string{"frog", "head", "stick"} {
		list := fullBow()
		first, _ := impl.WithoutPart(list, id)
		second, _ := impl.WithoutPart(list, id)
		want := slices.Clone(second)
		spoil(first, part("zz", 9, 9))
		same(t, "parts of another call", second, want)
		same(t, "argument of WithoutPart", list, fullBow())
		later, _ := impl.WithoutPart(list, id)
		same(t, "parts of a later call", later, want)
	}
}
