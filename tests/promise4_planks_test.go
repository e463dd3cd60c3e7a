package tests

import (
	"fmt"
	"math"
	"math/big"
	"math/rand"
	"slices"
	"strings"
	"testing"

	"loop.example/g01061/impl"
)

func plank(id string, length, width, thick, mass, rings int64) impl.Plank {
	return impl.Plank{Id: id, Length: length, Width: width, Thick: thick, Mass: mass, Rings: rings}
}

// randomPlank is a valid plank, small enough that others are often equal to it in something.
func randomPlank(random *rand.Rand, id string) impl.Plank {
	return plank(id, 10+random.Int63n(4), 10+random.Int63n(4), 10+random.Int63n(4), 1+random.Int63n(3), 1+random.Int63n(4))
}

// planksOf returns a list of so many planks, which are others for each seed.
func planksOf(many int, seed int64) []impl.Plank {
	random := rand.New(rand.NewSource(seed))
	list := make([]impl.Plank, many)
	for k := range list {
		list[k] = randomPlank(random, fmt.Sprintf("p%02d", k))
	}
	return list
}

func TestPromise4Constants(t *testing.T) {
	same(t, "constants", []int64{impl.MaxPlanks, impl.MaxSize, impl.MaxMass, impl.MaxRings, impl.MaxTone}, []int64{16, 2000, 100000, 500, 10000})
}

// checkInvalid checks that a plank is as nothing for each function with one.
func checkInvalid(t *testing.T, x impl.Plank) {
	t.Helper()
	good := plank("good", 400, 125, 40, 800, 100)
	name := " of " + shown(x)
	same(t, "ValidPlank"+name, impl.ValidPlank(x), false)
	same(t, "PlankText"+name, impl.PlankText(x), "")
	same(t, "FitsPiece"+name, impl.FitsPiece(x, 1, 1, 1), false)
	invalid := []int64{0, impl.ErrInvalid}
	check := func(function string, n, code int64) {
		t.Helper()
		same(t, function+name, []int64{n, code}, invalid)
	}
	n, code := impl.DensityOf(x)
	check("DensityOf", n, code)
	n, code = impl.RingWidth(x)
	check("RingWidth", n, code)
	n, code = impl.SpeedOf(x, 0)
	check("SpeedOf", n, code)
	n, code = impl.PairGap(x, good)
	check("PairGap first", n, code)
	n, code = impl.PairGap(good, x)
	check("PairGap second", n, code)
	n, code = impl.PiecesOf(x, 0, 0, 0)
	check("PiecesOf", n, code)
	n, code = impl.LightestFor([]impl.Plank{x}, 0, 0, 0)
	check("LightestFor", n, code)
	checkInvalidList(t, []impl.Plank{x})
	checkInvalidList(t, []impl.Plank{x, plank("zzzzzzzzzz", 400, 125, 40, 800, 100)})
	checkInvalidList(t, []impl.Plank{plank("a", 400, 125, 40, 800, 100), x})
}

// checkInvalidList checks that a list is as nothing, whatever else is wrong.
func checkInvalidList(t *testing.T, list []impl.Plank) {
	t.Helper()
	same(t, "ValidPlanks of "+shown(list), impl.ValidPlanks(list), false)
	a, b, code := impl.BestPair(list)
	same(t, "BestPair of "+shown(list), []int64{a, b, code}, []int64{0, 0, impl.ErrInvalid})
	for _, budget := range []int64{0, 1, impl.MaxBudget, impl.MaxBudget + 1} {
		pairs, sum, code := impl.PairAll(list, budget)
		same(t, "PairAll of "+shown(list), []any{len(pairs), sum, code}, []any{0, int64(0), int64(impl.ErrInvalid)})
	}
	for _, size := range []int64{0, 1, 2001} {
		a, code = impl.LightestFor(list, size, size, size)
		same(t, "LightestFor of "+shown(list), []int64{a, code}, []int64{0, impl.ErrInvalid})
	}
}

func TestPromise4ValidPlank(t *testing.T) {
	fields := []func(*impl.Plank) *int64{
		func(x *impl.Plank) *int64 { return &x.Length }, func(x *impl.Plank) *int64 { return &x.Width }, func(x *impl.Plank) *int64 { return &x.Thick },
		func(x *impl.Plank) *int64 { return &x.Mass }, func(x *impl.Plank) *int64 { return &x.Rings },
	}
	for k, most := range []int64{2000, 2000, 2000, 100000, 500} {
		for _, n := range []int64{1, 2, most - 1, most} {
			x := plank("p1", 400, 125, 40, 800, 100)
			*fields[k](&x) = n
			same(t, "ValidPlank of "+shown(x), impl.ValidPlank(x), true)
			same(t, "ValidPlanks of "+shown(x), impl.ValidPlanks([]impl.Plank{x}), true)
		}
		for _, n := range []int64{math.MinInt64, -most, -1, 0, most + 1, 1 << 32, 1<<32 + 1, math.MaxInt64} {
			x := plank("p1", 400, 125, 40, 800, 100)
			*fields[k](&x) = n
			checkInvalid(t, x)
		}
	}
	for _, id := range []string{"a", "z9", "abcdefghij"} {
		same(t, "ValidPlank of "+id, impl.ValidPlank(plank(id, 1, 1, 1, 1, 1)), true)
	}
	for _, id := range []string{"", "1", "A", "a b", "a ", "a-b", "abcdefghijk", "\u00e9", "a\x00"} {
		checkInvalid(t, plank(id, 400, 125, 40, 800, 100))
	}
	checkInvalid(t, impl.Plank{})
}

// named returns planks with told Ids.
func named(ids ...string) []impl.Plank {
	list := make([]impl.Plank, len(ids))
	for k, id := range ids {
		list[k] = plank(id, 400, 125, 40, 800, 100)
	}
	return list
}

func TestPromise4ValidPlanks(t *testing.T) {
	for many := range impl.MaxPlanks + 1 {
		same(t, fmt.Sprintf("ValidPlanks of %d", many), impl.ValidPlanks(planksOf(many, 1)), true)
	}
	checkInvalidList(t, planksOf(impl.MaxPlanks+1, 1))
	checkInvalidList(t, planksOf(1000, 1))
	same(t, "ValidPlanks in bytewise order", impl.ValidPlanks(named("a", "a0", "a10", "a2", "aa", "b", "z")), true)
	for _, ids := range [][]string{{"a", "a"}, {"b", "a"}, {"a2", "a10"}, {"aa", "a"}, {"a", "b", "b"}, {"a", "c", "b"}, {"b", "c", "a"}, {"a", "b", "a", "b"}} {
		checkInvalidList(t, named(ids...))
	}
}

func TestPromise4PlankTexts(t *testing.T) {
	random := rand.New(rand.NewSource(8))
	list := []impl.Plank{plank("p1", 400, 125, 40, 800, 100), plank("a", 1, 1, 1, 1, 1), plank("abcdefghij", 2000, 2000, 2000, 100000, 500)}
	for range 1000 {
		id := fmt.Sprintf("%c%x", 'a'+random.Intn(26), random.Int31())
		list = append(list, plank(id, 1+random.Int63n(2000), 1+random.Int63n(2000), 1+random.Int63n(2000), 1+random.Int63n(100000), 1+random.Int63n(500)))
	}
	for _, x := range list {
		s := fmt.Sprintf("%s %d,%d,%d,%d,%d", x.Id, x.Length, x.Width, x.Thick, x.Mass, x.Rings)
		same(t, "PlankText", impl.PlankText(x), s)
		got, ok := impl.ReadPlank(s)
		same(t, "ReadPlank of "+s, []any{got, ok}, []any{x, true})
	}
}

// wrongPlankTexts are texts of no plank, many of them nearly canonical.
func wrongPlankTexts() []string {
	list := []string{
		"", " ", "p1", "p1 ", "p1 -", " 400,125,40,800,100", "400,125,40,800,100", "p1  400,125,40,800,100", " p1 400,125,40,800,100", "p1 400,125,40,800,100 ",
		"p1 400,125,40,800,100\n", "p1\t400,125,40,800,100", "p1 400, 125,40,800,100", "p1 400 125 40 800 100", "p1,400,125,40,800,100", "p1 400,125,40,800", "p1 400,125,40,800,100,1",
		"p1 400,125,40,800,", "p1 ,400,125,40,800,100", "p1 400,,40,800,100", "P1 400,125,40,800,100", "1p 400,125,40,800,100", "abcdefghijk 400,125,40,800,100", "p-1 400,125,40,800,100",
		"p1 0400,125,40,800,100", "p1 +400,125,40,800,100", "p1 -400,125,40,800,100", "p1 400,125,40,800,-0", "p1 400,125,40,800,1e2", "p1 x,125,40,800,100", "p1 q 400,125,40,800,100",
		"p1 400,125,40,800,100 x", "p1 400;125;40;800;100", "p1\u00a0400,125,40,800,100", "\u00e9 400,125,40,800,100", "p1 400,125,40,800,\u0661",
		"p1 9223372036854775808,125,40,800,100", "p1 " + strings.Repeat("1,", 100) + "1",
	}
	for _, wrong := range []string{"0", "-1", "2001"} {
		list = append(list, "p1 "+wrong+",125,40,800,100", "p1 400,"+wrong+",40,800,100", "p1 400,125,"+wrong+",800,100")
	}
	return append(list, "p1 400,125,40,0,100", "p1 400,125,40,-1,100", "p1 400,125,40,100001,100", "p1 400,125,40,800,0", "p1 400,125,40,800,-1", "p1 400,125,40,800,501")
}

func TestPromise4ReadPlankRefuses(t *testing.T) {
	for _, s := range wrongPlankTexts() {
		x, ok := impl.ReadPlank(s)
		same(t, fmt.Sprintf("ReadPlank(%q)", s), []any{x, ok}, []any{impl.Plank{}, false})
	}
}

func densityOf(x impl.Plank) int64 {
	return nearestOf(big.NewInt(1000000*x.Mass), big.NewInt(x.Length*x.Width*x.Thick)).Int64()
}

func ringWidthOf(x impl.Plank) int64 {
	return nearestOf(big.NewInt(100*x.Width), big.NewInt(x.Rings)).Int64()
}

func gapOf(x, y impl.Plank) int64 {
	abs := func(n int64) int64 { return max(n, -n) }
	return abs(densityOf(x)-densityOf(y)) + abs(ringWidthOf(x)-ringWidthOf(y))
}

func TestPromise4DensityAndRings(t *testing.T) {
	list := oddPlanks()
	random := rand.New(rand.NewSource(9))
	for range 2000 {
		list = append(list, randomPlank(random, "r"), plank("s", 1+random.Int63n(2000), 1+random.Int63n(2000), 1+random.Int63n(2000), 1+random.Int63n(100000), 1+random.Int63n(500)))
	}
	for k, x := range list {
		if !impl.ValidPlank(x) {
			continue
		}
		density, code := impl.DensityOf(x)
		same(t, "DensityOf "+shown(x), []int64{density, code}, []int64{densityOf(x), impl.OK})
		width, code := impl.RingWidth(x)
		same(t, "RingWidth of "+shown(x), []int64{width, code}, []int64{ringWidthOf(x), impl.OK})
		y := list[(k*7+3)%len(list)]
		if impl.ValidPlank(y) {
			gap, code := impl.PairGap(x, y)
			same(t, "PairGap of "+shown(x)+" and "+shown(y), []int64{gap, code}, []int64{gapOf(x, y), impl.OK})
		}
	}
}

func TestPromise4DensityTellsItsValue(t *testing.T) {
	for _, c := range []struct {
		x                    impl.Plank
		density, width, self int64
	}{
		{plank("p1", 400, 125, 40, 800, 100), 400, 125, 0}, {plank("p4", 410, 125, 40, 830, 90), 405, 139, 0}, {plank("a", 1, 1, 1, 100000, 1), 100000000000, 100, 0},
		{plank("a", 2000, 1000, 1, 1, 500), 1, 200, 0}, {plank("a", 2000, 1001, 1, 1, 500), 0, 200, 0}, {plank("a", 2000, 2000, 2000, 1, 1), 0, 200000, 0},
		{plank("a", 2000, 2000, 2000, 100000, 400), 13, 500, 0}, {plank("a", 1, 1, 1, 1, 200), 1000000, 1, 0}, {plank("a", 1, 1, 1, 1, 201), 1000000, 0, 0},
	} {
		density, _ := impl.DensityOf(c.x)
		width, _ := impl.RingWidth(c.x)
		self, _ := impl.PairGap(c.x, c.x)
		same(t, "density, width and gap to itself of "+shown(c.x), []int64{density, width, self}, []int64{c.density, c.width, c.self})
	}
}

func TestPromise4SpeedOf(t *testing.T) {
	for _, c := range [][4]int64{
		{400, 5000, 4000, 0}, {400, 1, 0, 0}, {499, 1, 0, 0}, {500, 1, 1, 0}, {999, 1, 1, 0}, {1000, 1, 2, 0}, {333, 10, 6, 0}, {2000, 10000, 40000, 0}, {1, 10000, 20, 0}, {1, 999, 1, 0},
		{400, 0, 0, 2}, {400, -1, 0, 2}, {400, 10001, 0, 2}, {400, math.MinInt64, 0, 2}, {400, math.MaxInt64, 0, 2}, {2001, 0, 0, 1}, {0, 10001, 0, 1},
	} {
		speed, code := impl.SpeedOf(plank("p1", c[0], 125, 40, 800, 100), c[1])
		same(t, fmt.Sprintf("SpeedOf %d by %d", c[0], c[1]), []int64{speed, code}, c[2:])
	}
}

func TestPromise4FitsPiece(t *testing.T) {
	x := plank("p1", 6, 5, 4, 800, 100)
	for length := int64(-1); length <= 8; length++ {
		for width := int64(-1); width <= 8; width++ {
			for thick := int64(-1); thick <= 8; thick++ {
				name := fmt.Sprintf(" %d,%d,%d", length, width, thick)
				sized := min(length, width, thick) >= 1
				same(t, "FitsPiece"+name, impl.FitsPiece(x, length, width, thick), sized && length <= 6 && width <= 5 && thick <= 4)
				want := []int64{0, impl.ErrRange}
				if sized {
					want = []int64{(6 / length) * (5 / width) * (4 / thick), impl.OK}
				}
				pieces, code := impl.PiecesOf(x, length, width, thick)
				same(t, "PiecesOf"+name, []int64{pieces, code}, want)
			}
		}
	}
}

func TestPromise4PiecesAtTheLimits(t *testing.T) {
	x := plank("p1", 2000, 2000, 2000, 800, 100)
	for _, c := range [][5]int64{
		{1, 1, 1, 8000000000, 0}, {2000, 2000, 2000, 1, 0}, {1001, 2000, 2000, 1, 0}, {1000, 667, 1999, 4, 0}, {2001, 1, 1, 0, 2}, {1, 2001, 1, 0, 2}, {1, 1, 2001, 0, 2},
		{0, 1, 1, 0, 2}, {1, 0, 1, 0, 2}, {1, 1, 0, 0, 2}, {math.MinInt64, 1, 1, 0, 2}, {1, math.MinInt64, 1, 0, 2}, {1, 1, math.MaxInt64, 0, 2},
	} {
		pieces, code := impl.PiecesOf(x, c[0], c[1], c[2])
		same(t, fmt.Sprintf("PiecesOf %v", c[:3]), []int64{pieces, code}, c[3:])
		same(t, fmt.Sprintf("FitsPiece %v", c[:3]), impl.FitsPiece(x, c[0], c[1], c[2]), code == impl.OK)
		_, code = impl.LightestFor([]impl.Plank{x}, c[0], c[1], c[2])
		same(t, fmt.Sprintf("LightestFor %v", c[:3]), code, c[4])
	}
	pieces, code := impl.PiecesOf(plank("p1", 400, 125, 40, 800, 100), 401, 1, 1)
	same(t, "PiecesOf one that does not fit", []int64{pieces, code}, []int64{0, impl.OK})
}

func TestPromise4LightestFor(t *testing.T) {
	random := rand.New(rand.NewSource(10))
	for seed := range int64(3000) {
		list := planksOf(random.Intn(impl.MaxPlanks+1), seed)
		length, width, thick := 9+random.Int63n(6), 9+random.Int63n(6), 9+random.Int63n(6)
		want := []int64{0, impl.ErrNotFound}
		for k, x := range slices.Backward(list) {
			fits := length <= x.Length && width <= x.Width && thick <= x.Thick
			if fits && (want[1] != impl.OK || densityOf(x) <= densityOf(list[want[0]])) {
				want = []int64{int64(k), impl.OK}
			}
		}
		k, code := impl.LightestFor(list, length, width, thick)
		same(t, fmt.Sprintf("LightestFor %d,%d,%d of %s", length, width, thick, shown(list)), []int64{k, code}, want)
	}
	list := named("a", "b", "c")
	k, code := impl.LightestFor(list, 400, 125, 40)
	same(t, "LightestFor of equal planks", []int64{k, code}, []int64{0, impl.OK})
	list[2].Mass = 799
	k, code = impl.LightestFor(list, 400, 125, 40)
	same(t, "LightestFor of a lighter one with the same rounded density", []int64{k, code}, []int64{0, impl.OK})
	list[2].Mass = 798
	k, code = impl.LightestFor(list, 400, 125, 40)
	same(t, "LightestFor of a lighter one at the end", []int64{k, code}, []int64{2, impl.OK})
}
