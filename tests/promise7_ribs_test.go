package tests

import (
	"fmt"
	"math"
	"math/rand"
	"slices"
	"strings"
	"testing"

	"loop.example/g01061/impl"
)

func rib(id string, length, height int64) impl.Rib {
	return impl.Rib{Id: id, Length: length, Height: height}
}

// ribsWith returns ribs with told Lengths.
func ribsWith(lengths ...int64) []impl.Rib {
	list := make([]impl.Rib, len(lengths))
	for k, length := range lengths {
		list[k] = rib(fmt.Sprintf("r%03d", k), length, 300)
	}
	return list
}

// namedRibs returns ribs with told Ids.
func namedRibs(ids ...string) []impl.Rib {
	list := make([]impl.Rib, len(ids))
	for k, id := range ids {
		list[k] = rib(id, 1000, 300)
	}
	return list
}

// randomRibs returns so many ribs that are at most as long as told.
func randomRibs(random *rand.Rand, many int, longest int64) []impl.Rib {
	lengths := make([]int64, many)
	for k := range lengths {
		lengths[k] = 1 + random.Int63n(longest)
	}
	return ribsWith(lengths...)
}

func lengthsOf(list []impl.Rib) []int64 {
	lengths := make([]int64, len(list))
	for k, x := range list {
		lengths[k] = x.Length
	}
	return lengths
}

// checkRibsFail checks the functions with ribs for a wrong list, or for numbers that are not as stated.
func checkRibsFail(t *testing.T, list []impl.Rib, strip, saw, budget, height, round, want int64) {
	t.Helper()
	name := fmt.Sprintf(" of %s, %d, %d, %d, %d, %d", shown(list), strip, saw, budget, height, round)
	check := func(function string, n int, many, code int64) {
		t.Helper()
		same(t, function+name, []int64{int64(n), many, code}, []int64{0, 0, want})
	}
	given, many, code := impl.CutRibs(list, strip, saw, budget)
	check("CutRibs", len(given), many, code)
	given, many, code = impl.FirstCuts(list, strip, saw)
	check("FirstCuts", len(given), many, code)
	for _, given := range [][]int64{nil, {0}, {7}, make([]int64, len(list))} {
		left, code := impl.StripsLeft(list, given, strip, saw)
		check("StripsLeft", len(left), 0, code)
	}
	places, code := impl.BlocksAt(list, height)
	check("BlocksAt", len(places), 0, code)
	gap, code := impl.MouldGap(list, round)
	check("MouldGap", 0, gap, code)
	stretched, code := impl.StretchRibs(list, round)
	check("StretchRibs", len(stretched), 0, code)
}

// checkInvalidRibs checks that a list is as nothing, whatever else is wrong.
func checkInvalidRibs(t *testing.T, list []impl.Rib) {
	t.Helper()
	same(t, "ValidRibs of "+shown(list), impl.ValidRibs(list), false)
	sum, code := impl.RibsLength(list)
	same(t, "RibsLength of "+shown(list), []int64{sum, code}, []int64{0, impl.ErrInvalid})
	for _, n := range []int64{math.MinInt64, -1, 0, 1, 100, 10000, 10001, 100001, math.MaxInt64} {
		checkRibsFail(t, list, n, n, n, n, n, impl.ErrInvalid)
	}
	checkRibsFail(t, list, 2200, 10, 1, 300, 3100, impl.ErrInvalid)
}

// checkInvalidRib checks that a rib is as nothing for each function with one.
func checkInvalidRib(t *testing.T, x impl.Rib) {
	t.Helper()
	same(t, "RibText of "+shown(x), impl.RibText(x), "")
	checkInvalidRibs(t, []impl.Rib{x})
	checkInvalidRibs(t, []impl.Rib{x, rib("zzzzzzzzzz", 1000, 300)})
	checkInvalidRibs(t, []impl.Rib{rib("a", 1000, 300), x})
}

func TestPromise7Constants(t *testing.T) {
	same(t, "constants", []int64{impl.MaxRibs, impl.MaxStrips, impl.MaxRib}, []int64{8, 8, 10000})
}

func TestPromise7ValidRib(t *testing.T) {
	for _, n := range []int64{1, 2, 9999, 10000} {
		for _, x := range []impl.Rib{rib("ra", n, 300), rib("ra", 1000, n), rib("ra", n, n)} {
			same(t, "ValidRibs of "+shown(x), impl.ValidRibs([]impl.Rib{x}), true)
			sum, code := impl.RibsLength([]impl.Rib{x})
			same(t, "RibsLength of "+shown(x), []int64{sum, code}, []int64{x.Length, impl.OK})
		}
	}
	for _, n := range []int64{math.MinInt64, -10000, -1, 0, 10001, 1 << 32, 1<<32 + 1, math.MaxInt64} {
		checkInvalidRib(t, rib("ra", n, 300))
		checkInvalidRib(t, rib("ra", 1000, n))
	}
	for _, id := range []string{"a", "z9", "abcdefghij"} {
		same(t, "ValidRibs of "+id, impl.ValidRibs(namedRibs(id)), true)
	}
	for _, id := range []string{"", "1", "A", "a b", "a ", "a-b", "abcdefghijk", "\u00e9", "a\x00"} {
		checkInvalidRib(t, rib(id, 1000, 300))
	}
	checkInvalidRib(t, impl.Rib{})
}

func TestPromise7ValidRibs(t *testing.T) {
	random := rand.New(rand.NewSource(71))
	for many := range impl.MaxRibs + 1 {
		same(t, fmt.Sprintf("ValidRibs of %d", many), impl.ValidRibs(randomRibs(random, many, 10000)), true)
	}
	checkInvalidRibs(t, randomRibs(random, impl.MaxRibs+1, 10000))
	checkInvalidRibs(t, randomRibs(random, 1000, 10000))
	same(t, "ValidRibs in bytewise order", impl.ValidRibs(namedRibs("a", "a0", "a10", "a2", "aa", "b", "z")), true)
	for _, ids := range [][]string{{"a", "a"}, {"b", "a"}, {"a2", "a10"}, {"aa", "a"}, {"a", "b", "b"}, {"a", "c", "b"}, {"b", "c", "a"}, {"a", "b", "a", "b"}} {
		checkInvalidRibs(t, namedRibs(ids...))
	}
}

func TestPromise7RibsLength(t *testing.T) {
	for _, c := range []struct {
		lengths []int64
		want    int64
	}{
		{nil, 0}, {[]int64{1}, 1}, {[]int64{1000, 900, 1200}, 3100}, {[]int64{1, 2, 4, 8, 16, 32, 64, 128}, 255}, {slices.Repeat([]int64{10000}, 8), 80000},
	} {
		sum, code := impl.RibsLength(ribsWith(c.lengths...))
		same(t, fmt.Sprintf("RibsLength of %v", c.lengths), []int64{sum, code}, []int64{c.want, impl.OK})
	}
}

func TestPromise7RibTexts(t *testing.T) {
	random := rand.New(rand.NewSource(72))
	list := []impl.Rib{rib("ra", 1000, 300), rib("a", 1, 1), rib("abcdefghij", 10000, 10000), rib("z9", 1, 10000), rib("z9", 10000, 1)}
	for range 1000 {
		list = append(list, rib(fmt.Sprintf("%c%x", 'a'+random.Intn(26), random.Int31()), 1+random.Int63n(10000), 1+random.Int63n(10000)))
	}
	for _, x := range list {
		s := fmt.Sprintf("%s %d,%d", x.Id, x.Length, x.Height)
		same(t, "RibText", impl.RibText(x), s)
		got, ok := impl.ReadRib(s)
		same(t, "ReadRib of "+s, []any{got, ok}, []any{x, true})
	}
}

// wrongRibTexts are texts of no rib, many of them nearly canonical.
func wrongRibTexts() []string {
	list := []string{
		"", " ", "ra", "ra ", "ra -", " 1000,300", "1000,300", "ra  1000,300", " ra 1000,300", "ra 1000,300 ", "ra 1000,300\n", "ra\t1000,300", "ra 1000, 300", "ra 1000 300", "ra,1000,300",
		"ra 1000", "ra 1000,300,1", "ra 1000,", "ra ,300", "ra 1000,,300", "ra 1000,300,", "RA 1000,300", "1r 1000,300", "abcdefghijk 1000,300", "r-a 1000,300", "ra 01000,300", "ra +1000,300",
		"ra 1000,-0", "ra 1000,3e2", "ra x,300", "ra q 1000,300", "ra 1000,300 x", "ra 1000;300", "ra\u00a01000,300", "\u00e9 1000,300", "ra 1000,\u0661", "ra 9223372036854775808,300",
		"ra 1000,300.0", "ra 1000,-", "ra -,300", "ra 1000,300\x00", "ra " + strings.Repeat("1,", 100) + "1",
	}
	for _, wrong := range []string{"0", "-1", "10001", "1000000000000", "1000000000001", "18446744073709551617"} {
		list = append(list, "ra "+wrong+",300", "ra 1000,"+wrong)
	}
	return list
}

func TestPromise7ReadRibRefuses(t *testing.T) {
	for _, s := range slices.Concat(texts, wrongRibTexts()) {
		x, ok := impl.ReadRib(s)
		same(t, fmt.Sprintf("ReadRib(%q)", s), []any{x, ok}, []any{impl.Rib{}, false})
	}
}

func TestPromise7RibsOrderOfErrors(t *testing.T) {
	good := ribsWith(1000, 900, 1200)
	for _, n := range []int64{math.MinInt64, math.MinInt64 + 1, -100001, -1, 100001, math.MaxInt64 - 1, math.MaxInt64} {
		checkRibsFail(t, good, n, n, n, n, n, impl.ErrRange)
		checkRibsFail(t, good, 1, n, n, n, n, impl.ErrRange)
		checkRibsFail(t, nil, n, n, n, n, n, impl.ErrRange)
	}
	// Each of these goes wrong in one number alone, and behind it for want of room as well.
	for _, c := range [][3]int64{{0, 0, 1}, {1, -1, 1}, {1, 101, 1}, {100001, 0, 1}} {
		checkRibsFail(t, good, c[0], c[1], c[2], 0, -1, impl.ErrRange)
	}
	for _, budget := range []int64{math.MinInt64, -1, 0, 20001, math.MaxInt64} {
		for _, strip := range []int64{1, 1199, 1200, 100000} {
			given, many, code := impl.CutRibs(good, strip, 10, budget)
			same(t, fmt.Sprintf("CutRibs of strips of %d with %d nodes", strip, budget), []int64{int64(len(given)), many, code}, []int64{0, 0, impl.ErrRange})
		}
	}
}
