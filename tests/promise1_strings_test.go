package tests

import (
	"fmt"
	"math"
	"math/rand"
	"slices"
	"testing"

	"loop.example/g01061/impl"
)

// stringNumbers are limits of chapter 9 that are just reached and just passed, and the ends of int64.
var stringNumbers = []int64{math.MinInt64, math.MinInt64 + 1, -1, 0, 1, 2, 500, 501, 1000, 1001, 10000, 10001, 20000, 20001, 500000, 500001, 2000000, 2000001, 1 << 32, math.MaxInt64 - 1, math.MaxInt64}

// oddCords are strings with each field at its limits, beyond them and far beyond them.
func oddCords() []impl.Cord {
	cords := []impl.Cord{{}, cord(4400, 325, 600, 90000)}
	for _, n := range stringNumbers {
		cords = append(cords, cord(n, 325, 600, 90000), cord(4400, n, 600, 90000), cord(4400, 325, n, 90000), cord(4400, 325, 600, n), cord(n, n, n, n))
	}
	return cords
}

// oddCordLists are lists of strings that are valid, too long or with wrong strings.
func oddCordLists() [][]impl.Cord {
	random := rand.New(rand.NewSource(132))
	x := cord(4400, 325, 600, 90000)
	lists := [][]impl.Cord{nil, {}, {{}}, {x, {}}, {{}, x}, oddCords(), slices.Repeat([]impl.Cord{x}, 100000)}
	for many := range 6 {
		lists = append(lists, slices.Repeat([]impl.Cord{x}, many), slices.Repeat([]impl.Cord{cord(1, 1, 1, 1)}, many), slices.Repeat([]impl.Cord{cord(10000, 500, 10000, 500000)}, many), randomTask(random).list)
	}
	return lists
}

// oddGauges are lists of gauges, most of them wrong for most strings.
func oddGauges() [][][]int64 {
	lists := [][][]int64{nil, {}, {nil}, {{}}, {{1}}, {{0}}, {{10001}}, {{1, 1}}, {{2, 1}}, {{1, 2, 3, 4, 5, 6, 7}}, {{500, 600}, {250, 300}}, {{math.MinInt64, math.MaxInt64}}, slices.Repeat([][]int64{{1}}, 100000), {make([]int64, 100000)}}
	for many := range 6 {
		lists = append(lists, slices.Repeat([][]int64{{1, 2, 300, 600, 9999, 10000}}, many))
	}
	return lists
}

func cordCalls() []namedCall {
	var calls []namedCall
	for _, x := range oddCords() {
		add := func(name string, call func() []any) {
			calls = append(calls, namedCall{name + " of " + shown(x), call})
		}
		add("ValidString", func() []any { return []any{impl.ValidString(x), impl.StringText(x)} })
		add("TensionOf", func() []any { tension, code := impl.TensionOf(x); return []any{tension, code} })
		add("SafetyOf", func() []any { safety, code := impl.SafetyOf(x); return []any{safety, code} })
		for _, n := range stringNumbers {
			add("HighestPitch", func() []any { pitch, code := impl.HighestPitch(x, n); return []any{pitch, code} })
			add("LeastGauge", func() []any { gauge, code := impl.LeastGauge(x, n); return []any{gauge, code} })
			add("StopPlace", func() []any { place, code := impl.StopPlace(x, n); return []any{place, code} })
		}
	}
	for _, s := range slices.Concat(texts, wrongStringTexts(), []string{"4400,325,600,90000"}) {
		call := func() []any { x, ok := impl.ReadString(s); return []any{x, ok} }
		calls = append(calls, namedCall{fmt.Sprintf("ReadString(%s)", shown(s)), call})
	}
	return calls
}

func cordListCalls() []namedCall {
	var calls []namedCall
	for k, list := range oddCordLists() {
		add := func(name string, call func() []any) {
			calls = append(calls, namedCall{fmt.Sprintf("%s of list %d", name, k), call})
		}
		add("TotalTension", func() []any { sum, code := impl.TotalTension(list); return []any{sum, code} })
		for _, n := range stringNumbers {
			add("BreakingStrings", func() []any { breaking, code := impl.BreakingStrings(list, n); return []any{breaking, code} })
			for _, gauges := range oddGauges() {
				for _, bounds := range [][3]int64{{n, 1000, 2000}, {2000000, n, 2000}, {2000000, 1000, n}, {n, n, n}} {
					add("SetUp", func() []any {
						some, spread, code := impl.SetUp(list, gauges, bounds[0], bounds[1], bounds[2])
						return []any{some, spread, code}
					})
					add("CountSetUps", func() []any {
						count, code := impl.CountSetUps(list, gauges, bounds[0], bounds[1], bounds[2])
						return []any{count, code}
					})
				}
			}
		}
	}
	return calls
}

func TestPromise1StringsReturnEqualResults(t *testing.T) {
	checkEqualResults(t, slices.Concat(cordCalls(), cordListCalls()))
}

func TestPromise1NilAndEmptyStrings(t *testing.T) {
	for _, list := range [][]impl.Cord{nil, {}} {
		sum, code := impl.TotalTension(list)
		same(t, "TotalTension", []int64{sum, code}, []int64{0, impl.OK})
		breaking, code := impl.BreakingStrings(list, 0)
		same(t, "BreakingStrings", []int64{int64(len(breaking)), code}, []int64{0, impl.OK})
		for _, gauges := range [][][]int64{nil, {}} {
			setUpTask{list, gauges, 0, 0}.checkTells(t, nil, 0, 1, 1)
		}
		for _, gauges := range [][][]int64{{nil}, {{}}} {
			setUpTask{list, gauges, 0, 0}.checkFails(t, 1, impl.ErrOrder)
		}
	}
	for _, gauges := range [][][]int64{{nil}, {{}}} {
		setUpTask{[]impl.Cord{cord(1, 1, 1, 1)}, gauges, 0, 0}.checkTells(t, nil, 0, 0, 1)
	}
}

func TestPromise1StringsModifyNoArgument(t *testing.T) {
	random := rand.New(rand.NewSource(133))
	for range 200 {
		s := randomTask(random)
		memory := slices.Concat(s.list, oddCords())
		rows := [][]int64{}
		for _, some := range s.gauges {
			rows = append(rows, slices.Concat(some, []int64{7, 7, 7}))
		}
		rowsBefore, memoryBefore := cloneGrid(rows), slices.Clone(memory)
		gauges := make([][]int64, len(rows), len(rows)+3)
		for k := range rows {
			gauges[k] = rows[k][:len(s.gauges[k])]
		}
		list := memory[:len(s.list)]
		gaugesBefore := cloneGrid(gauges[:cap(gauges)])
		for _, budget := range []int64{0, 1, 5, 20000} {
			impl.SetUp(list, gauges, s.most, s.share, budget)
			impl.CountSetUps(list, gauges, s.most, s.share, budget)
			impl.SetUp(memory, gauges, s.most, s.share, budget)
		}
		impl.TotalTension(list)
		impl.BreakingStrings(list, s.share)
		same(t, "memory of strings", memory, memoryBefore)
		same(t, "memory of gauges", []any{rows, fmt.Sprint(gauges[:cap(gauges)])}, []any{rowsBefore, fmt.Sprint(gaugesBefore)})
	}
}

func TestPromise1SetUpsAreNewMemory(t *testing.T) {
	x := cord(4400, 325, 600, 90000)
	list, gauges := []impl.Cord{x, x, x}, slices.Repeat([][]int64{{500, 600}}, 3)
	for name, call := range map[string]func() []int64{
		"SetUp":           func() []int64 { some, _, _ := impl.SetUp(list, gauges, 2000000, 1000, 20000); return some },
		"SetUp of one":    func() []int64 { some, _, _ := impl.SetUp(list[:1], gauges[:1], 2000000, 1000, 20000); return some },
		"BreakingStrings": func() []int64 { breaking, _ := impl.BreakingStrings(list, 1); return breaking },
	} {
		first, second := call(), call()
		want := slices.Clone(second)
		spoil(first, -7)
		same(t, name+" of another call", second, want)
		same(t, name+" of a later call", call(), want)
		same(t, "arguments behind "+name, []any{list, gauges}, []any{[]impl.Cord{x, x, x}, [][]int64{{500, 600}, {500, 600}, {500, 600}}})
	}
}
