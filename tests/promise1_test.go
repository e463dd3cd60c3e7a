package tests

import (
	"fmt"
	"math"
	"slices"
	"testing"

	"loop.example/g01061/impl"
)

// namedCall is a call with fixed arguments, that may be made again and again.
type namedCall struct {
	name string
	call func() []any
}

// textCalls are the calls of chapter 1 with a text.
func textCalls() []namedCall {
	var calls []namedCall
	add := func(name string, s string, call func() []any) {
		calls = append(calls, namedCall{fmt.Sprintf("%s(%s)", name, shown(s)), call})
	}
	for _, s := range texts {
		add("IsName", s, func() []any { return []any{impl.IsName(s)} })
		add("ReadDecimal", s, func() []any { n, ok := impl.ReadDecimal(s); return []any{n, ok} })
		add("SplitWords", s, func() []any { return []any{impl.SplitWords(s)} })
		add("ReadList", s, func() []any { list, ok := impl.ReadList(s); return []any{list, ok} })
		for _, start := range numbers {
			add(fmt.Sprint("Crc16 from ", start), s, func() []any { return []any{impl.Crc16(s, start)} })
		}
	}
	return calls
}

// numberCalls are the calls of chapter 1 with one or two numbers, or a list.
func numberCalls() []namedCall {
	var calls []namedCall
	add := func(name string, arguments any, call func() []any) {
		calls = append(calls, namedCall{fmt.Sprintf("%s(%s)", name, shown(arguments)), call})
	}
	for _, a := range numbers {
		add("CodeName", a, func() []any { return []any{impl.CodeName(a)} })
		add("Decimal", a, func() []any { return []any{impl.Decimal(a)} })
		add("RootOf", a, func() []any { return []any{impl.RootOf(a)} })
		for _, b := range numbers {
			add("DivRound", []int64{a, b}, func() []any { return []any{impl.DivRound(a, b)} })
		}
	}
	lists := [][]int64{nil, {}, {0}, numbers, {impl.MaxValue, -impl.MaxValue}, make([]int64, 64), make([]int64, 65), make([]int64, 100000)}
	for _, list := range lists {
		add("ListText", list, func() []any { return []any{impl.ListText(list)} })
	}
	return calls
}

// blendCalls are the calls of Blend with numbers near its limits, and the ends of int64.
func blendCalls() []namedCall {
	var calls []namedCall
	ends := []int64{math.MinInt64, -1000001, -1000000, -1, 0, 3, 1000000, 1000001, math.MaxInt64}
	for _, x0 := range ends {
		for _, y0 := range ends {
			for _, x1 := range ends {
				for _, y1 := range ends {
					for _, x := range ends {
						name := fmt.Sprintf("Blend(%d, %d, %d, %d, %d)", x0, y0, x1, y1, x)
						calls = append(calls, namedCall{name, func() []any { return []any{impl.Blend(x0, y0, x1, y1, x)} }})
					}
				}
			}
		}
	}
	return calls
}

// checkEqualResults makes all calls twice. The second round goes backwards, so that a result that
// depends on an earlier call is seen.
func checkEqualResults(t *testing.T, calls []namedCall) {
	t.Helper()
	results := make([][]any, len(calls))
	for k, c := range calls {
		results[k] = resultOf(t, c.name, c.call)
	}
	for k, c := range slices.Backward(calls) {
		same(t, c.name+" again", resultOf(t, c.name, c.call), results[k])
	}
}

func TestPromise1ReturnsEqualResults(t *testing.T) {
	checkEqualResults(t, slices.Concat(textCalls(), numberCalls(), blendCalls()))
}

func TestPromise1EqualForNilAndEmptyList(t *testing.T) {
	same(t, "ListText(nil)", impl.ListText(nil), impl.ListText([]int64{}))
}

func TestPromise1ModifiesNoArgument(t *testing.T) {
	for _, length := range []int{0, 1, 5, 64, 65} {
		for _, wrong := range []int64{0, impl.MaxValue + 1} {
			list, memory := spare(length, 80)
			if length > 0 {
				list[length-1] = wrong
			}
			before := slices.Clone(memory)
			impl.ListText(list)
			same(t, fmt.Sprintf("memory of %d numbers behind ListText", length), memory, before)
		}
	}
}

func TestPromise1ResultsAreNewMemory(t *testing.T) {
	words, otherWords := impl.SplitWords(" a  bc d "), impl.SplitWords(" a  bc d ")
	spoil(words, "spoilt")
	same(t, "words of another call", otherWords, []string{"a", "bc", "d"})
	same(t, "words of a later call", impl.SplitWords(" a  bc d "), []string{"a", "bc", "d"})

	list, _ := impl.ReadList("3,0,-1")
	otherList, _ := impl.ReadList("3,0,-1")
	spoil(list, 99)
	same(t, "list of another call", otherList, []int64{3, 0, -1})
	later, ok := impl.ReadList("3,0,-1")
	same(t, "list of a later call", []any{later, ok}, []any{[]int64{3, 0, -1}, true})

	none, _ := impl.ReadList("-")
	_ = append(none, 99)
	later, ok = impl.ReadList("-")
	same(t, "empty list of a later call", []any{len(later), ok}, []any{0, true})
}

// spoil overwrites a slice and its unused capacity.
func spoil[T any](list []T, with T) {
	list = list[:cap(list)]
	for k := range list {
		list[k] = with
	}
}
