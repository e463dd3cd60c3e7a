package tests

import (
	"fmt"
	"math"
	"math/big"
	"math/rand"
	"slices"
	"testing"

	"loop.example/g01061/impl"
)

// beyond32 are numbers that are far beyond all limits of chapter 9.
var beyond32 = []int64{math.MinInt64, math.MinInt64 + 1, -1 << 32, 1<<32 + 1, math.MaxInt64 - 1, math.MaxInt64}

func cord(pitch, length, gauge, strength int64) impl.Cord {
	return impl.Cord{Pitch: pitch, Length: length, Gauge: gauge, Strength: strength}
}

// isCord reports whether a string is valid by the definition.
func isCord(x impl.Cord) bool {
	return min(x.Pitch, x.Length, x.Gauge, x.Strength) >= 1 && x.Pitch <= 10000 && x.Length <= 500 && x.Gauge <= 10000 && x.Strength <= 500000
}

// randomCord has fields over their whole ranges, or small ones.
func randomCord(random *rand.Rand) impl.Cord {
	if random.Intn(4) == 0 {
		return cord(1+random.Int63n(300), 1+random.Int63n(500), 1+random.Int63n(2000), 1+random.Int63n(50))
	}
	return cord(1+random.Int63n(10000), 1+random.Int63n(500), 1+random.Int63n(10000), 1+random.Int63n(500000))
}

// tensionIn is the tension of a string, with numbers of any size.
func tensionIn(x impl.Cord) int64 {
	product := big.NewInt(4)
	for _, n := range []int64{x.Pitch, x.Pitch, x.Length, x.Length, x.Gauge} {
		product.Mul(product, big.NewInt(n))
	}
	return nearestOf(product, big.NewInt(100000000000)).Int64()
}

func holdsIn(x impl.Cord, share int64) bool { return 1000*tensionIn(x) <= share*x.Strength }

func checkTension(t *testing.T, x impl.Cord, want int64) {
	t.Helper()
	name := fmt.Sprintf("%+v", x)
	tension, code := impl.TensionOf(x)
	same(t, "TensionOf "+name, []int64{tension, code}, []int64{want, impl.OK})
	sum, code := impl.TotalTension([]impl.Cord{x, cord(5000, 500, 2000, 1), x})
	same(t, "TotalTension of "+name, []int64{sum, code}, []int64{2*want + 500000, impl.OK})
	safety, code := impl.SafetyOf(x)
	if want == 0 {
		same(t, "SafetyOf "+name, []int64{safety, code}, []int64{0, impl.ErrNotFound})
		return
	}
	same(t, "SafetyOf "+name, []int64{safety, code}, []int64{1000 * x.Strength / want, impl.OK})
}

// checkHolds checks whether a string holds with a share, by all functions that tell so.
func checkHolds(t *testing.T, x impl.Cord, share int64, want bool) {
	t.Helper()
	name := fmt.Sprintf("%+v with a share of %d", x, share)
	breaking, code := impl.BreakingStrings([]impl.Cord{x}, share)
	same(t, "BreakingStrings of "+name, []any{len(breaking) == 0, code}, []any{want, int64(impl.OK)})
	pitch, code := impl.HighestPitch(x, share)
	same(t, "HighestPitch of "+name, []any{pitch >= x.Pitch, code}, []any{want, int64(impl.OK)})
	most := int64(impl.MaxTotal)
	count, code := impl.CountSetUps([]impl.Cord{x}, [][]int64{{x.Gauge}}, most, share, 2)
	same(t, "CountSetUps of "+name, []any{count == 1, code}, []any{want, int64(impl.OK)})
	_, _, code = impl.SetUp([]impl.Cord{x}, [][]int64{{x.Gauge}}, most, share, 2)
	same(t, "SetUp of "+name, []bool{code == impl.OK, code == impl.ErrNotFound}, []bool{want, !want})
}

// checkInvalidCord checks that a string is as nothing, whatever else is wrong.
func checkInvalidCord(t *testing.T, x impl.Cord) {
	t.Helper()
	name := " of " + shown(x)
	same(t, "ValidString"+name, []any{impl.ValidString(x), isCord(x), impl.StringText(x)}, []any{false, false, ""})
	check := func(function string, number, code int64) {
		t.Helper()
		same(t, function+name, []int64{number, code}, []int64{0, impl.ErrInvalid})
	}
	tension, code := impl.TensionOf(x)
	check("TensionOf", tension, code)
	safety, code := impl.SafetyOf(x)
	check("SafetyOf", safety, code)
	for _, n := range []int64{math.MinInt64, -1, 0, 1, 1000, 1001, 500000, math.MaxInt64} {
		pitch, code := impl.HighestPitch(x, n)
		check("HighestPitch", pitch, code)
		gauge, code := impl.LeastGauge(x, n)
		check("LeastGauge", gauge, code)
		place, code := impl.StopPlace(x, n)
		check("StopPlace", place, code)
	}
	checkInvalidCords(t, []impl.Cord{x})
	checkInvalidCords(t, []impl.Cord{x, cord(4400, 325, 600, 90000)})
	checkInvalidCords(t, []impl.Cord{cord(4400, 325, 600, 90000), cord(1, 1, 1, 1), cord(1, 1, 1, 1), x})
}

// checkInvalidCords checks that a list is as nothing, whatever else is wrong.
func checkInvalidCords(t *testing.T, list []impl.Cord) {
	t.Helper()
	name := " of " + shown(list)
	check := func(function string, isZero bool, code int64) {
		t.Helper()
		same(t, function+name, []any{isZero, code}, []any{true, int64(impl.ErrInvalid)})
	}
	sum, code := impl.TotalTension(list)
	check("TotalTension", sum == 0, code)
	for _, n := range []int64{math.MinInt64, -1, 0, 1, 1000, 1001, 20001, 2000001, math.MaxInt64} {
		breaking, code := impl.BreakingStrings(list, n)
		check("BreakingStrings", len(breaking) == 0, code)
		for _, gauges := range [][][]int64{nil, {{1}}, slices.Repeat([][]int64{{1}}, len(list)), {{0}}} {
			some, spread, code := impl.SetUp(list, gauges, n, n, n)
			check("SetUp", len(some) == 0 && spread == 0, code)
			count, code := impl.CountSetUps(list, gauges, n, n, n)
			check("CountSetUps", count == 0, code)
		}
	}
}

func TestPromise10Constants(t *testing.T) {
	got := []int64{impl.MaxPitch, impl.MaxString, impl.MaxGauge, impl.MaxForce, impl.MaxStrings, impl.MaxGauges, impl.MaxTotal, impl.MaxShare}
	same(t, "constants", got, []int64{10000, 500, 10000, 500000, 4, 6, 2000000, 1000})
}

func TestPromise10ValidString(t *testing.T) {
	most := []int64{10000, 500, 10000, 500000}
	for field, limit := range most {
		for _, n := range slices.Concat([]int64{-limit, -2, -1, 0, 1, 2, limit - 1, limit, limit + 1, limit + 2, 2 * limit}, beyond32) {
			for _, others := range [][]int64{{1, 1, 1, 1}, {4400, 325, 600, 90000}, most} {
				fields := slices.Clone(others)
				fields[field] = n
				x := cord(fields[0], fields[1], fields[2], fields[3])
				if 1 <= n && n <= limit {
					same(t, "ValidString of "+shown(x), []bool{impl.ValidString(x), isCord(x)}, []bool{true, true})
					checkTension(t, x, tensionIn(x))
				} else {
					checkInvalidCord(t, x)
				}
			}
		}
	}
	checkInvalidCord(t, impl.Cord{})
}

func TestPromise10ListsOfStrings(t *testing.T) {
	for many := range 5 {
		list := slices.Repeat([]impl.Cord{cord(4400, 325, 600, 90000)}, many)
		sum, code := impl.TotalTension(list)
		same(t, fmt.Sprintf("TotalTension of %d", many), []int64{sum, code}, []int64{int64(many) * 49078, impl.OK})
		breaking, code := impl.BreakingStrings(list, 545)
		same(t, fmt.Sprintf("BreakingStrings of %d", many), []any{fmt.Sprint(breaking), code}, []any{fmt.Sprint([]int64{0, 1, 2, 3}[:many]), int64(impl.OK)})
	}
	for _, many := range []int{5, 6, 64, 100000} {
		checkInvalidCords(t, slices.Repeat([]impl.Cord{cord(4400, 325, 600, 90000)}, many))
	}
	sum, code := impl.TotalTension([]impl.Cord{cord(10000, 500, 10000, 1), cord(10000, 500, 10000, 1), cord(10000, 500, 10000, 1), cord(10000, 500, 10000, 1)})
	same(t, "TotalTension at the limits", []int64{sum, code}, []int64{40000000, impl.OK})
}

func TestPromise10Tensions(t *testing.T) {
	random := rand.New(rand.NewSource(121))
	for range 20000 {
		x := randomCord(random)
		checkTension(t, x, tensionIn(x))
	}
}

func TestPromise10TensionTellsItsValue(t *testing.T) {
	for _, c := range []struct {
		x    impl.Cord
		want int64
	}{
		{cord(4400, 325, 600, 90000), 49078}, {cord(6593, 325, 250, 90000), 45913}, {cord(1, 1, 1, 1), 0}, {cord(10000, 500, 10000, 500000), 10000000}, {cord(5000, 500, 2000, 1), 500000},
		// Just at the half, just below it and just above it.
		{cord(1000, 50, 5, 1), 1}, {cord(999, 50, 5, 1), 0}, {cord(1000, 49, 5, 1), 0}, {cord(1000, 50, 4, 1), 0}, {cord(1001, 50, 5, 1), 1},
		{cord(1000, 50, 15, 1), 2}, {cord(999, 50, 15, 1), 1}, {cord(1000, 50, 14, 1), 1}, {cord(1000, 50, 25, 1), 3}, {cord(999, 50, 25, 1), 2}, {cord(1000, 50, 10, 1), 1},
		{cord(1000, 50, 9995, 1), 1000}, {cord(999, 50, 9995, 1), 998}, {cord(500, 100, 5, 1), 1}, {cord(5000, 500, 2002, 1), 500500},
		// Great tensions just at the half, and less than a ten thousandth part away from it.
		{cord(9500, 500, 9223, 1), 8323758}, {cord(9949, 475, 9625, 1), 8598185}, {cord(9407, 498, 8202, 1), 7200136}, {cord(8308, 461, 8824, 1), 5177502}, {cord(9396, 476, 8085, 1), 6469042}, {cord(9993, 470, 8777, 1), 7744504},
		// The lowest pitch has no tension in any string, the lowest ones have none in most of them.
		{cord(1, 500, 10000, 1), 0}, {cord(2, 500, 10000, 1), 0}, {cord(3, 500, 10000, 1), 1}, {cord(2, 500, 10000, 500000), 0},
	} {
		same(t, "what is wanted of "+shown(c.x), tensionIn(c.x), c.want)
		checkTension(t, c.x, c.want)
	}
	for gauge := int64(5); gauge <= 10000; gauge += 10 {
		checkTension(t, cord(1000, 50, gauge, 7), gauge/10+1)
	}
}

func TestPromise10SafetyTellsItsValue(t *testing.T) {
	for _, c := range []struct {
		x          impl.Cord
		want, code int64
	}{
		{cord(4400, 325, 600, 90000), 1833, impl.OK}, {cord(4400, 325, 600, 49078), 1000, impl.OK}, {cord(4400, 325, 600, 49077), 999, impl.OK}, {cord(4400, 325, 600, 1), 0, impl.OK}, {cord(4400, 325, 600, 49), 0, impl.OK}, {cord(4400, 325, 600, 50), 1, impl.OK},
		{cord(1000, 50, 5, 1), 1000, impl.OK}, {cord(1000, 50, 5, 500000), 500000000, impl.OK}, {cord(1000, 50, 25, 1), 333, impl.OK}, {cord(1000, 50, 25, 2), 666, impl.OK}, {cord(10000, 500, 10000, 500000), 50, impl.OK},
		{cord(1, 1, 1, 1), 0, impl.ErrNotFound}, {cord(999, 50, 5, 500000), 0, impl.ErrNotFound}, {cord(1, 500, 10000, 500000), 0, impl.ErrNotFound},
	} {
		safety, code := impl.SafetyOf(c.x)
		same(t, "SafetyOf "+shown(c.x), []int64{safety, code}, []int64{c.want, c.code})
	}
}

func TestPromise10StringsThatJustHold(t *testing.T) {
	// 1000 times the tension is share times the Strength, or 1 more, or 1 less.
	for _, c := range []struct {
		x     impl.Cord
		share int64
		holds bool
	}{
		{cord(4400, 325, 600, 49078), 1000, true}, {cord(4400, 325, 600, 49077), 1000, false}, {cord(4400, 325, 600, 49079), 1000, true}, {cord(4400, 325, 600, 49078), 999, false}, {cord(4400, 325, 600, 98156), 500, true}, {cord(4400, 325, 600, 98155), 500, false},
		{cord(4400, 325, 600, 98156), 499, false}, {cord(4400, 325, 600, 490780), 100, true}, {cord(4400, 325, 600, 490779), 100, false}, {cord(4400, 325, 600, 490780), 99, false}, {cord(4400, 325, 600, 500000), 99, true}, {cord(4400, 325, 600, 500000), 98, false},
		{cord(5000, 500, 2000, 500000), 1000, true}, {cord(5000, 500, 2000, 499999), 1000, false}, {cord(5000, 500, 2000, 500000), 999, false}, {cord(5000, 500, 1998, 500000), 999, true}, {cord(5000, 500, 1999, 500000), 999, false},
		// The tension is 1: 1000 is 999 times 1 and 1 more, 333 times 3 and 1 more, and 37 times 27 and 1 more.
		{cord(1000, 50, 5, 1), 1000, true}, {cord(1000, 50, 5, 1), 999, false}, {cord(1000, 50, 5, 3), 333, false}, {cord(1000, 50, 5, 3), 334, true}, {cord(1000, 50, 5, 27), 37, false}, {cord(1000, 50, 5, 4), 250, true}, {cord(1000, 50, 5, 4), 249, false},
		{cord(1000, 50, 5, 1000), 1, true}, {cord(1000, 50, 5, 999), 1, false}, {cord(1000, 50, 5, 1001), 1, true}, {cord(1000, 50, 5, 143), 7, true}, {cord(1000, 50, 5, 142), 7, false},
		// The tension is 1000: 1000000 is 999 times 1001 and 1 more, and 333 times 3003 and 1 more.
		{cord(1000, 50, 10000, 1001), 999, false}, {cord(1000, 50, 10000, 3003), 333, false}, {cord(1000, 50, 10000, 1000), 1000, true}, {cord(1000, 50, 10000, 500000), 2, true}, {cord(1000, 50, 10000, 499999), 2, false}, {cord(1000, 50, 10000, 500000), 1, false}, {cord(1000, 50, 9995, 1000), 1000, true},
		// Without tension, a string holds with any share.
		{cord(999, 50, 5, 1), 0, true}, {cord(999, 50, 5, 500000), 0, true}, {cord(1000, 50, 5, 500000), 0, false}, {cord(1, 1, 1, 1), 0, true}, {cord(1, 500, 10000, 1), 0, true}, {cord(10000, 500, 10000, 500000), 0, false}, {cord(10000, 500, 10000, 500000), 1000, false},
	} {
		same(t, "whether it should hold", holdsIn(c.x, c.share), c.holds)
		checkHolds(t, c.x, c.share, c.holds)
	}
	random := rand.New(rand.NewSource(122))
	for range 5000 {
		x := randomCord(random)
		x.Strength = min(500000, max(1, tensionIn(x)+random.Int63n(3)-1))
		for _, share := range []int64{0, 1, 999, 1000, random.Int63n(1001)} {
			checkHolds(t, x, share, holdsIn(x, share))
		}
		share := 1 + random.Int63n(1000)
		x.Strength = min(500000, max(1, 1000*tensionIn(x)/share+random.Int63n(3)-1))
		checkHolds(t, x, share, holdsIn(x, share))
	}
}

func TestPromise10BreakingStrings(t *testing.T) {
	random := rand.New(rand.NewSource(123))
	for range 3000 {
		list := make([]impl.Cord, random.Intn(5))
		share := random.Int63n(1001)
		want := []int64{}
		for k := range list {
			list[k] = randomCord(random)
			if !holdsIn(list[k], share) {
				want = append(want, int64(k))
			}
		}
		breaking, code := impl.BreakingStrings(list, share)
		same(t, fmt.Sprintf("BreakingStrings(%v, %d)", list, share), []any{fmt.Sprint(breaking), code}, []any{fmt.Sprint(want), int64(impl.OK)})
	}
}

// checkHighest checks that a pitch is the greatest one with which a string holds.
func checkHighest(t *testing.T, x impl.Cord, share int64) {
	t.Helper()
	name := fmt.Sprintf("HighestPitch(%+v, %d)", x, share)
	pitch, code := impl.HighestPitch(x, share)
	same(t, "code of "+name, code, int64(impl.OK))
	at := func(pitch int64) bool { return holdsIn(cord(pitch, x.Length, x.Gauge, x.Strength), share) }
	same(t, fmt.Sprintf("%s is %d and just enough", name, pitch), []bool{1 <= pitch && pitch <= 10000, at(pitch), pitch == 10000 || !at(pitch+1)}, []bool{true, true, true})
}

func TestPromise10HighestPitchesAreJustEnough(t *testing.T) {
	random := rand.New(rand.NewSource(124))
	for range 5000 {
		x := randomCord(random)
		for _, share := range []int64{0, 1, 1000, random.Int63n(1001)} {
			checkHighest(t, x, share)
		}
		// A string that just holds at its pitch, or just does not.
		x.Strength = min(500000, max(1, tensionIn(x)+random.Int63n(2)-1))
		checkHighest(t, x, 1000)
	}
	// Behind the highest pitch, no higher one holds.
	for _, x := range []impl.Cord{cord(1, 325, 600, 90000), cord(10000, 500, 10000, 1), cord(7, 1, 1, 1), cord(4400, 50, 5, 3)} {
		for _, share := range []int64{0, 1, 600, 1000} {
			want := int64(0)
			for pitch := range int64(10000) {
				if holdsIn(cord(pitch+1, x.Length, x.Gauge, x.Strength), share) {
					want = pitch + 1
				}
			}
			pitch, code := impl.HighestPitch(x, share)
			same(t, fmt.Sprintf("HighestPitch(%+v, %d)", x, share), []int64{pitch, code}, []int64{want, impl.OK})
		}
	}
}

func TestPromise10HighestPitchTellsItsValue(t *testing.T) {
	for _, c := range []struct {
		x           impl.Cord
		share, want int64
	}{
		{cord(4400, 325, 600, 90000), 1000, 5958}, {cord(1, 325, 600, 90000), 1000, 5958}, {cord(10000, 325, 600, 90000), 1000, 5958}, {cord(1, 325, 600, 49078), 1000, 4400}, {cord(1, 325, 600, 49077), 1000, 4399},
		// A tension of 0 is all that holds with a share of 0.
		{cord(1, 50, 5, 500000), 0, 999}, {cord(1, 500, 10000, 500000), 0, 2}, {cord(10000, 500, 10000, 1), 0, 2}, {cord(1, 50, 5, 1), 1000, 1732}, {cord(1, 50, 5, 1), 999, 999},
		// No pitch is too high.
		{cord(1, 1, 1, 1), 0, 10000}, {cord(1, 1, 1, 1), 1000, 10000}, {cord(1, 500, 500, 500000), 1000, 10000}, {cord(1, 500, 501, 500000), 1000, 9990}, {cord(1, 500, 500, 499999), 1000, 9999},
	} {
		pitch, code := impl.HighestPitch(c.x, c.share)
		same(t, fmt.Sprintf("HighestPitch(%+v, %d)", c.x, c.share), []int64{pitch, code}, []int64{c.want, impl.OK})
		checkHighest(t, c.x, c.share)
	}
	for _, share := range slices.Concat([]int64{-1000, -2, -1, 1001, 1002, 500000}, beyond32) {
		for _, x := range []impl.Cord{cord(4400, 325, 600, 90000), cord(1, 1, 1, 1), cord(10000, 500, 10000, 500000)} {
			pitch, code := impl.HighestPitch(x, share)
			same(t, fmt.Sprintf("HighestPitch(%+v, %d)", x, share), []int64{pitch, code}, []int64{0, impl.ErrRange})
			breaking, code := impl.BreakingStrings([]impl.Cord{x}, share)
			same(t, fmt.Sprintf("BreakingStrings(%+v, %d)", x, share), []int64{int64(len(breaking)), code}, []int64{0, impl.ErrRange})
		}
		breaking, code := impl.BreakingStrings(nil, share)
		same(t, fmt.Sprintf("BreakingStrings of none with %d", share), []int64{int64(len(breaking)), code}, []int64{0, impl.ErrRange})
	}
}

// checkLeastGauge checks that a gauge is the least one with a tension, or that there is none.
func checkLeastGauge(t *testing.T, x impl.Cord, force int64) {
	t.Helper()
	name := fmt.Sprintf("LeastGauge(%+v, %d)", x, force)
	gauge, code := impl.LeastGauge(x, force)
	at := func(gauge int64) int64 { return tensionIn(cord(x.Pitch, x.Length, gauge, x.Strength)) }
	if at(10000) < force {
		same(t, name, []int64{gauge, code}, []int64{0, impl.ErrNotFound})
		return
	}
	same(t, "code of "+name, code, int64(impl.OK))
	same(t, fmt.Sprintf("%s is %d and just enough", name, gauge), []bool{1 <= gauge && gauge <= 10000, at(gauge) >= force, gauge == 1 || at(gauge-1) < force}, []bool{true, true, true})
}

func TestPromise10LeastGaugesAreJustEnough(t *testing.T) {
	random := rand.New(rand.NewSource(125))
	seen := map[int64]int{}
	for range 5000 {
		x := randomCord(random)
		most := tensionIn(cord(x.Pitch, x.Length, 10000, 1))
		for _, force := range []int64{0, 1, 500000, most - 1, most, most + 1, tensionIn(x), tensionIn(x) + 1, random.Int63n(500001)} {
			if 0 <= force && force <= 500000 {
				checkLeastGauge(t, x, force)
				_, code := impl.LeastGauge(x, force)
				seen[code]++
			}
		}
	}
	if seen[impl.OK] < 1000 || seen[impl.ErrNotFound] < 1000 {
		t.Errorf("too few strings of a kind: %v", seen)
	}
}

func TestPromise10LeastGaugeTellsItsValue(t *testing.T) {
	x := cord(1000, 50, 7, 1)
	for _, c := range []struct {
		x                 impl.Cord
		force, want, code int64
	}{
		{cord(4400, 325, 600, 90000), 40000, 490, impl.OK}, {cord(4400, 325, 600, 90000), 49078, 600, impl.OK}, {cord(4400, 325, 600, 90000), 49079, 601, impl.OK}, {cord(4400, 325, 1, 1), 49078, 600, impl.OK}, {cord(4400, 325, 10000, 1), 49078, 600, impl.OK},
		{x, 0, 1, impl.OK}, {x, 1, 5, impl.OK}, {x, 2, 15, impl.OK}, {x, 999, 9985, impl.OK}, {x, 1000, 9995, impl.OK}, {x, 1001, 0, impl.ErrNotFound}, {x, 500000, 0, impl.ErrNotFound},
		{cord(1, 1, 1, 1), 0, 1, impl.OK}, {cord(1, 1, 1, 1), 1, 0, impl.ErrNotFound}, {cord(1, 1, 1, 1), 5, 0, impl.ErrNotFound}, {cord(10000, 500, 1, 1), 500000, 500, impl.OK}, {cord(10000, 500, 1, 1), 499500, 500, impl.OK}, {cord(10000, 500, 1, 1), 1000, 1, impl.OK}, {cord(10000, 500, 1, 1), 1001, 2, impl.OK},
		{cord(5000, 500, 1, 1), 500000, 2000, impl.OK}, {cord(5000, 500, 1, 1), 499751, 2000, impl.OK}, {cord(5000, 500, 1, 1), 499750, 1999, impl.OK}, {cord(1000, 500, 1, 1), 100000, 10000, impl.OK}, {cord(1000, 500, 1, 1), 100001, 0, impl.ErrNotFound},
	} {
		gauge, code := impl.LeastGauge(c.x, c.force)
		same(t, fmt.Sprintf("LeastGauge(%+v, %d)", c.x, c.force), []int64{gauge, code}, []int64{c.want, c.code})
		checkLeastGauge(t, c.x, c.force)
	}
	for _, force := range slices.Concat([]int64{-500000, -2, -1, 500001, 500002}, beyond32) {
		for _, x := range []impl.Cord{x, cord(1, 1, 1, 1), cord(10000, 500, 10000, 500000)} {
			gauge, code := impl.LeastGauge(x, force)
			same(t, fmt.Sprintf("LeastGauge(%+v, %d)", x, force), []int64{gauge, code}, []int64{0, impl.ErrRange})
		}
	}
}

func checkStop(t *testing.T, x impl.Cord, pitch, want, code int64) {
	t.Helper()
	place, got := impl.StopPlace(x, pitch)
	same(t, fmt.Sprintf("StopPlace(%+v, %d)", x, pitch), []int64{place, got}, []int64{want, code})
}

func TestPromise10StopPlace(t *testing.T) {
	random := rand.New(rand.NewSource(126))
	for range 5000 {
		x := randomCord(random)
		for _, pitch := range []int64{x.Pitch, x.Pitch + 1, 2 * x.Pitch, 9999, 10000, x.Pitch + random.Int63n(10001-x.Pitch)} {
			if x.Pitch <= pitch && pitch <= 10000 {
				checkStop(t, x, pitch, nearestOf(big.NewInt(10*x.Length*(pitch-x.Pitch)), big.NewInt(pitch)).Int64(), impl.OK)
			}
		}
		for _, pitch := range slices.Concat([]int64{0, -x.Pitch, x.Pitch - 1, 10001, 20000}, beyond32) {
			checkStop(t, x, pitch, 0, impl.ErrRange)
		}
	}
}

func TestPromise10StopPlaceTellsItsValue(t *testing.T) {
	x := cord(4400, 325, 600, 90000)
	checkStop(t, x, 4400, 0, impl.OK)
	checkStop(t, x, 4401, 1, impl.OK)
	checkStop(t, x, 4399, 0, impl.ErrRange)
	checkStop(t, x, 8800, 1625, impl.OK)
	checkStop(t, x, 10000, 1820, impl.OK)
	checkStop(t, x, 10001, 0, impl.ErrRange)
	checkStop(t, cord(1, 500, 1, 1), 10000, 5000, impl.OK)
	checkStop(t, cord(1, 1, 1, 1), 1, 0, impl.OK)
	checkStop(t, cord(1, 1, 1, 1), 2, 5, impl.OK)
	checkStop(t, cord(10000, 500, 1, 1), 10000, 0, impl.OK)
	checkStop(t, cord(10000, 500, 1, 1), 9999, 0, impl.ErrRange)
	// 9.5 and 8.5 are rounded up, and 0.45 is not.
	checkStop(t, cord(1, 1, 1, 1), 20, 10, impl.OK)
	checkStop(t, cord(3, 1, 1, 1), 20, 9, impl.OK)
	checkStop(t, cord(21, 1, 1, 1), 22, 0, impl.OK)
	checkStop(t, cord(19, 1, 1, 1), 20, 1, impl.OK)
}

func TestPromise10StringTexts(t *testing.T) {
	random := rand.New(rand.NewSource(127))
	list := []impl.Cord{cord(4400, 325, 600, 90000), cord(1, 1, 1, 1), cord(10000, 500, 10000, 500000), cord(1, 500, 1, 500000), cord(10000, 1, 10000, 1)}
	for range 1000 {
		list = append(list, randomCord(random))
	}
	for _, x := range list {
		s := fmt.Sprintf("%d,%d,%d,%d", x.Pitch, x.Length, x.Gauge, x.Strength)
		same(t, "StringText", impl.StringText(x), s)
		got, ok := impl.ReadString(s)
		same(t, "ReadString of "+s, []any{got, ok}, []any{x, true})
	}
}

// wrongStringTexts are texts of no string, many of them nearly canonical.
func wrongStringTexts() []string {
	list := []string{
		"", "-", ",", ",,,", "4400", "4400,325", "4400,325,600", "4400,325,600,", ",325,600,90000", "4400,,600,90000", "4400,325,600,90000,", "4400,325,600,90000,1", "4400,325,600,90000 ", " 4400,325,600,90000",
		"4400, 325,600,90000", "4400 325 600 90000", "4400;325;600;90000", "4400,325,600,90000\n", "04400,325,600,90000", "4400,0325,600,90000", "+4400,325,600,90000", "4400,325,600,9e4", "4400,325,600,90000.0",
		"4400,325,0x258,90000", "a,325,600,90000", "4400,325,600,x", "a 4400,325,600,90000", "4400,325,600,\u0669", "4400,325,600,90000\x00", "4400,325,600,-", "{4400 325 600 90000}", "1_0,1,1,1", "1,1,1,-0", "-,1,1,1",
	}
	for field, most := range []string{"10001", "501", "10001", "500001"} {
		for _, wrong := range []string{"0", "-1", most, "1000000000000", "1000000000001", "9223372036854775808", "18446744073709551617"} {
			parts := []string{"1", "1", "1", "1"}
			parts[field] = wrong
			list = append(list, parts[0]+","+parts[1]+","+parts[2]+","+parts[3])
		}
	}
	return list
}

func TestPromise10ReadStringRefuses(t *testing.T) {
	for _, s := range slices.Concat(texts, wrongStringTexts()) {
		x, ok := impl.ReadString(s)
		same(t, fmt.Sprintf("ReadString(%s)", shown(s)), []any{x, ok}, []any{impl.Cord{}, false})
	}
}
