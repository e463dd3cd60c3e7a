package tests

import (
	"fmt"
	"math"
	"reflect"
	"strings"
	"testing"

	"loop.example/g01061/impl"
)

// numbers are limits that are just reached and just passed, and the ends of int64.
var numbers = []int64{
	math.MinInt64, math.MinInt64 + 1, -impl.MaxValue - 1, -impl.MaxValue, -1000001, -1000000,
	-65536, -65, -7, -2, -1, 0, 1, 2, 3, 7, 11, 12, 64, 65, 65535, 65536, 1000000, 1000001,
	3037000499, impl.MaxValue, impl.MaxValue + 1, 999999999999999999, 1000000000000000000,
	math.MaxInt64 - 1, math.MaxInt64,
}

// texts are canonical, nearly canonical and far from it.
var texts = []string{
	"", " ", "  ", "-", "--", "-0", "0", "00", "01", "-01", "+1", "1 ", " 1", "1\n", "\t1", "1_0",
	"0x1", "1e3", "1.0", "a", "z9", "abcdefghij", "abcdefghijk", "9a", "A", "a b  c ", "a\tb",
	"3,0,-1", ",", "1,", ",1", "1,,2", "1, 2", "-,1", "1,-", "1;2", "[1]", "1000000000000",
	"1000000000001", "999999999999999999", "1000000000000000000", "-999999999999999999",
	"9223372036854775807", "-9223372036854775808", "9223372036854775808", "\x00", "1\x00",
	"\xff\xfe", "\xc3", "\u0663", "\uff11", "\u22121", "\u00a0", "a\u00e9", "ok", "not-found",
	strings.Repeat("9", 1000), strings.Repeat("0,", 63) + "0", strings.Repeat("0,", 64) + "0",
	strings.Repeat("1000000000000,", 63) + "1000000000000", strings.Repeat(" ", 1000),
}

// spare is a list of a length within a longer memory, all of which may be looked at.
func spare(length, capacity int) (list, memory []int64) {
	memory = make([]int64, capacity)
	for k := range memory {
		memory[k] = int64(7*k - 5)
	}
	return memory[:length:capacity], memory
}

// resultOf runs a call, and reports a panic as a failed test with the name of the call.
func resultOf(t *testing.T, name string, call func() []any) (result []any) {
	t.Helper()
	defer func() {
		if p := recover(); p != nil {
			t.Errorf("%s panics: %v", name, p)
		}
	}()
	return call()
}

func same(t *testing.T, name string, got, want any) {
	t.Helper()
	if !reflect.DeepEqual(got, want) {
		t.Errorf("%s: got %s, want %s", name, shown(got), shown(want))
	}
}

func shown(x any) string {
	s := fmt.Sprintf("%#v", x)
	if len(s) > 300 {
		return s[:300] + " .."
	}
	return s
}
