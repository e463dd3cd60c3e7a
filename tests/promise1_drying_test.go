package tests

import (
	"fmt"
	"math"
	"slices"
	"testing"

	"loop.example/g01061/impl"
)

// dryNumbers are limits of chapter 4 that are just reached and just passed, and the ends of int64.
var dryNumbers = []int64{math.MinInt64, -1, 0, 1, 9, 10, 60, 280, 1000, 1001, 4000, 4001, 36524, 36525, 100000, 100001, math.MaxInt64}

// oddStacks are stacks with each field at its limits, beyond them and far beyond them.
func oddStacks() []impl.Stack {
	stacks := []impl.Stack{{}, stack("sa", 200, 20, 9000)}
	for _, n := range dryNumbers {
		stacks = append(stacks, stack("a", n, 20, 9000), stack("b", 200, n, 9000), stack("c", 200, 20, n), stack("d", n, n, n))
	}
	for _, id := range []string{"", "1", "A", "a b", "abcdefghij", "abcdefghijk", "\xff"} {
		stacks = append(stacks, stack(id, 200, 20, 9000))
	}
	return stacks
}

func stackCalls() []namedCall {
	var calls []namedCall
	for _, x := range oddStacks() {
		add := func(name string, call func() []any, arguments ...int64) {
			calls = append(calls, namedCall{fmt.Sprintf("%s of %s, %d", name, shown(x), arguments), call})
		}
		add("StackText", func() []any { return []any{impl.StackText(x)} })
		for _, n := range dryNumbers {
			add("SafeHumidity", func() []any { humidity, code := impl.SafeHumidity(x, n); return []any{humidity, code} }, n)
			for _, m := range dryNumbers {
				add("MoistureAfter", func() []any { moisture, code := impl.MoistureAfter(x, n, m); return []any{moisture, code} }, n, m)
				add("DaysToDry", func() []any { days, code := impl.DaysToDry(x, n, m); return []any{days, code} }, n, m)
				add("CrackDays", func() []any { days, code := impl.CrackDays(x, n, n, m); return []any{days, code} }, n, m)
				add("CrackDays", func() []any { days, code := impl.CrackDays(x, n, m, m); return []any{days, code} }, n, m)
				add("StagesFor", func() []any { list, code := impl.StagesFor(x, []int64{n, 300}, m); return []any{list, code} }, n, m)
			}
		}
		add("StagesFor none", func() []any { list, code := impl.StagesFor(x, nil, 1); return []any{list, code} })
		add("StagesFor too many", func() []any { list, code := impl.StagesFor(x, make([]int64, 100000), 1); return []any{list, code} })
	}
	return calls
}

func dryNumberCalls() []namedCall {
	var calls []namedCall
	add := func(name string, call func() []any, arguments ...int64) {
		calls = append(calls, namedCall{fmt.Sprintf("%s%d", name, arguments), call})
	}
	for _, a := range dryNumbers {
		add("EvenMoisture", func() []any { n, code := impl.EvenMoisture(a); return []any{n, code} }, a)
		for _, b := range dryNumbers {
			for _, c := range dryNumbers {
				for _, d := range []int64{math.MinInt64, -1, 0, 1, 1000, 4000, 4001, math.MaxInt64} {
					add("ThickToDry", func() []any { n, code := impl.ThickToDry(a, b, c, d); return []any{n, code} }, a, b, c, d)
					add("ShrunkTo", func() []any { n, code := impl.ShrunkTo(a, b, c, d); return []any{n, code} }, a, b, c, d)
				}
			}
		}
	}
	return calls
}

// stackLists are lists of stacks that are valid, too long, out of order or with wrong stacks.
func stackLists() [][]impl.Stack {
	lists := [][]impl.Stack{nil, {}, oddStacks(), {{}}, {{}, {}}, slices.Repeat(since(9000), 100000), slices.Concat(stacksOf(3, 1), stacksOf(3, 1))}
	for many := range impl.MaxStacks + 2 {
		lists = append(lists, stacksOf(many, 1), slices.Concat(stacksOf(many, 1), []impl.Stack{{}}))
	}
	return append(lists, since(0, impl.MaxDate), since(impl.MaxDate, 0))
}

func stackListCalls() []namedCall {
	var calls []namedCall
	for k, list := range stackLists() {
		add := func(name string, call func() []any, arguments ...int64) {
			calls = append(calls, namedCall{fmt.Sprintf("%s of list %d, %d", name, k, arguments), call})
		}
		add("ValidStacks", func() []any { return []any{impl.ValidStacks(list)} })
		for _, n := range dryNumbers {
			add("OldestStack", func() []any { id, days, code := impl.OldestStack(list, n); return []any{id, days, code} }, n)
			for _, m := range dryNumbers {
				add("ReadyStacks", func() []any { ready, code := impl.ReadyStacks(list, n, m, n); return []any{ready, code} }, n, m)
				add("ReadyStacks", func() []any { ready, code := impl.ReadyStacks(list, 300, n, m); return []any{ready, code} }, n, m)
				add("ReadyStacks", func() []any { ready, code := impl.ReadyStacks(list, n, 9004, m); return []any{ready, code} }, n, m)
			}
		}
	}
	return calls
}

func readStackCalls() []namedCall {
	var calls []namedCall
	for _, s := range slices.Concat(texts, unitTexts, wrongStackTexts(), []string{"sa 200,20 2024-08-22"}) {
		calls = append(calls, namedCall{fmt.Sprintf("ReadStack(%s)", shown(s)), func() []any { x, ok := impl.ReadStack(s); return []any{x, ok} }})
	}
	return calls
}

func TestPromise1DryingReturnsEqualResults(t *testing.T) {
	checkEqualResults(t, slices.Concat(stackCalls(), dryNumberCalls(), stackListCalls(), readStackCalls()))
}

func TestPromise1NilAndEmptyStacks(t *testing.T) {
	x := stack("sa", 200, 20, 9000)
	for _, none := range [][]int64{nil, {}} {
		moistures, code := impl.StagesFor(x, none, 1)
		same(t, "StagesFor", []any{len(moistures), code}, []any{0, int64(impl.OK)})
	}
	for _, list := range [][]impl.Stack{nil, {}} {
		same(t, "ValidStacks", impl.ValidStacks(list), true)
		ready, code := impl.ReadyStacks(list, 300, 9000, 1000)
		same(t, "ReadyStacks", []any{len(ready), code}, []any{0, int64(impl.OK)})
		id, days, code := impl.OldestStack(list, 9000)
		same(t, "OldestStack", []any{id, days, code}, []any{"", int64(0), int64(impl.ErrNotFound)})
	}
}

func TestPromise1DryingModifiesNoArgument(t *testing.T) {
	for _, many := range []int{0, 1, 5, 12, 13} {
		memory := stacksOf(20, 3)
		list := memory[:many:20]
		before := slices.Clone(memory)
		impl.ValidStacks(list)
		impl.ReadyStacks(list, 300, 9010, 280)
		impl.ReadyStacks(list, 300, 9010, 1001)
		impl.OldestStack(list, 9010)
		impl.OldestStack(list, 0)
		same(t, fmt.Sprintf("memory of %d stacks", many), memory, before)

		stages, numbers := spare(many, 20)
		for k := range numbers {
			numbers[k] = int64(50 * k)
		}
		unchanged := slices.Clone(numbers)
		impl.StagesFor(stack("sa", 200, 20, 9000), stages, 3)
		impl.StagesFor(stack("sa", 200, 20, 9000), stages, -1)
		same(t, fmt.Sprintf("memory of %d humidities", many), numbers, unchanged)
	}
}

func TestPromise1DryingResultsAreNewMemory(t *testing.T) {
	x, stages := stack("sa", 200, 20, 9000), []int64{300, 600, 0}
	moistures, _ := impl.StagesFor(x, stages, 2)
	others, _ := impl.StagesFor(x, stages, 2)
	want := slices.Clone(others)
	spoil(moistures, -7)
	same(t, "moistures of another call", others, want)
	same(t, "humidities", stages, []int64{300, 600, 0})
	others, _ = impl.StagesFor(x, stages, 2)
	same(t, "moistures of a later call", others, want)

	list := since(9000, 9001, 9002)
	ready, _ := impl.ReadyStacks(list, 300, 9010, 100)
	others, _ = impl.ReadyStacks(list, 300, 9010, 100)
	spoil(ready, -7)
	same(t, "stacks of another call", others, []int64{0, 1, 2})
	others, _ = impl.ReadyStacks(list, 300, 9010, 100)
	same(t, "stacks of a later call", others, []int64{0, 1, 2})
}
