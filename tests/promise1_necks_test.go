package tests

import (
	"fmt"
	"math"
	"math/rand"
	"slices"
	"testing"

	"loop.example/g01061/impl"
)

// neckNumbers are limits of chapter 10 that are just reached and just passed, and the ends of int64.
var neckNumbers = []int64{math.MinInt64, math.MinInt64 + 1, -1, 0, 1, 24, 25, 99, 100, 200, 201, 300, 301, 500, 501, 1000, 1001, 2000, 2001, 10000, 10001, 1 << 32, 1<<32 + 1, math.MaxInt64 - 1, math.MaxInt64}

// oddNecks are necks with each field at its limits, beyond them and far beyond them.
func oddNecks() []impl.Neck {
	necks := []impl.Neck{{}, violin, neck(100, 100, 0, 0), neck(10000, 10000, 500, 300)}
	for _, n := range neckNumbers {
		necks = append(necks, neck(n, 1950, 60, 110), neck(1300, n, 60, 110), neck(1300, 1950, n, 110), neck(1300, 1950, 60, n), neck(n, n, n, n))
	}
	return necks
}

// oddNeckLists are lists of necks that are valid, too long or with wrong necks.
func oddNeckLists() [][]impl.Neck {
	random := rand.New(rand.NewSource(151))
	lists := [][]impl.Neck{nil, {}, {{}}, {violin, {}}, {{}, violin}, oddNecks()}
	for _, many := range []int{1, 2, 63, 64, 65, 100000} {
		lists = append(lists, slices.Repeat([]impl.Neck{violin}, many), similarNecks(random, many))
	}
	return lists
}

func neckCalls() []namedCall {
	var calls []namedCall
	for _, x := range oddNecks() {
		add := func(name string, call func() []any) {
			calls = append(calls, namedCall{name + " of " + shown(x), call})
		}
		add("ValidNeck", func() []any { return []any{impl.ValidNeck(x), impl.NeckText(x)} })
		add("ScaleOf", func() []any { scale, code := impl.ScaleOf(x); return []any{scale, code} })
		add("StopRatio", func() []any { ratio, code := impl.StopRatio(x); return []any{ratio, code} })
		add("ProjectionOf", func() []any { height, code := impl.ProjectionOf(x); return []any{height, code} })
		for _, n := range neckNumbers {
			add("AngleFor", func() []any { angle, code := impl.AngleFor(x, n); return []any{angle, code} })
			add("StringAngle", func() []any { angle, code := impl.StringAngle(x, n); return []any{angle, code} })
			add("BridgeFor", func() []any { bridge, code := impl.BridgeFor(x, n); return []any{bridge, code} })
			for _, joint := range neckNumbers {
				add("ShimFor", func() []any { shim, code := impl.ShimFor(x, n, joint); return []any{shim, code} })
			}
		}
	}
	for _, s := range slices.Concat(texts, wrongNeckTexts(), []string{"1300,1950,60,110"}) {
		call := func() []any { x, ok := impl.ReadNeck(s); return []any{x, ok} }
		calls = append(calls, namedCall{fmt.Sprintf("ReadNeck(%s)", shown(s)), call})
	}
	return calls
}

func neckNumberCalls() []namedCall {
	var calls []namedCall
	for _, a := range neckNumbers {
		for _, b := range neckNumbers {
			stopFor := func() []any { stop, code := impl.StopFor(a, b); return []any{stop, code} }
			calls = append(calls, namedCall{fmt.Sprintf("StopFor(%d, %d)", a, b), stopFor})
			for _, c := range neckNumbers {
				heights := func() []any { heights, code := impl.HeightsAlong(a, b, c); return []any{heights, code} }
				calls = append(calls, namedCall{fmt.Sprintf("HeightsAlong(%d, %d, %d)", a, b, c), heights})
			}
		}
	}
	return calls
}

func neckListCalls() []namedCall {
	var calls []namedCall
	for k, list := range oddNeckLists() {
		add := func(name string, call func() []any) {
			calls = append(calls, namedCall{fmt.Sprintf("%s of list %d", name, k), call})
		}
		for _, want := range oddNecks() {
			add("NearestNeck", func() []any {
				index, gap, code := impl.NearestNeck(list, want)
				return []any{index, gap, code}
			})
		}
		for _, n := range neckNumbers {
			for _, off := range []int64{math.MinInt64, -1, 0, 1000, 1001, math.MaxInt64} {
				add("SetNecks", func() []any { set, code := impl.SetNecks(list, n, off); return []any{set, code} })
			}
		}
	}
	return calls
}

func TestPromise1NecksReturnEqualResults(t *testing.T) {
	checkEqualResults(t, slices.Concat(neckCalls(), neckNumberCalls(), neckListCalls()))
}

func TestPromise1NilAndEmptyNecks(t *testing.T) {
	for _, list := range [][]impl.Neck{nil, {}} {
		checkNearest(t, list, violin, 0, 0, impl.ErrNotFound)
		checkNearest(t, list, impl.Neck{}, 0, 0, impl.ErrInvalid)
		checkSet(t, list, 275, 0, nil, impl.OK)
		checkSet(t, list, -1, 0, nil, impl.ErrRange)
	}
}

func TestPromise1NecksModifyNoArgument(t *testing.T) {
	random := rand.New(rand.NewSource(152))
	for _, many := range []int{0, 1, 5, 64, 65} {
		for range 20 {
			memory := slices.Concat(similarNecks(random, many), oddNecks())
			before := slices.Clone(memory)
			for _, list := range [][]impl.Neck{memory[:many], memory} {
				for _, n := range []int64{-1, 0, 275, 1000, 1001} {
					impl.SetNecks(list, 275, n)
					impl.SetNecks(list, n, 3)
				}
				impl.NearestNeck(list, violin)
				impl.NearestNeck(list, impl.Neck{})
			}
			same(t, fmt.Sprintf("memory of %d necks", many), memory, before)
		}
	}
}

func TestPromise1NeckResultsAreNewMemory(t *testing.T) {
	list := slices.Repeat([]impl.Neck{violin}, 3)
	for name, call := range map[string]func() []int64{
		"HeightsAlong":             func() []int64 { heights, _ := impl.HeightsAlong(10, 50, 4); return heights },
		"HeightsAlong of one part": func() []int64 { heights, _ := impl.HeightsAlong(7, 7, 1); return heights },
		"SetNecks":                 func() []int64 { set, _ := impl.SetNecks(list, 275, 0); return set },
		"SetNecks of none":         func() []int64 { set, _ := impl.SetNecks(nil, 275, 0); return set },
	} {
		first, second := call(), call()
		want := slices.Clone(second)
		spoil(first, -7)
		same(t, name+" of another call", second, want)
		same(t, name+" of a later call", call(), want)
		same(t, "necks behind "+name, list, []impl.Neck{violin, violin, violin})
	}
}
