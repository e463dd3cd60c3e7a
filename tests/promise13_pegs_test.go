package tests

import (
	"fmt"
	"math"
	"math/big"
	"math/rand"
	"slices"
	"testing"

	"loop.example/g01061/impl"
)

func peg(id string, thick, length, taper int64) impl.Peg {
	return impl.Peg{Id: id, Thick: thick, Length: length, Taper: taper}
}

// examplePeg is the peg of the document's example; it is 73 thick at its thick end.
var examplePeg = peg("pa", 60, 400, 30)

// pegLimits are the least and the greatest values of the fields of a peg.
var pegLimits = [3][2]int64{{20, 200}, {100, 1000}, {10, 100}}

// pegsWith returns pegs like the example with told Thicks.
func pegsWith(thicks ...int64) []impl.Peg {
	list := make([]impl.Peg, len(thicks))
	for k, thick := range thicks {
		list[k] = peg(fmt.Sprintf("p%03d", k), thick, 400, 30)
	}
	return list
}

// namedPegs returns pegs with told Ids.
func namedPegs(ids ...string) []impl.Peg {
	list := make([]impl.Peg, len(ids))
	for k, id := range ids {
		list[k] = peg(id, 60, 400, 30)
	}
	return list
}

// randomPeg has fields over their whole ranges, or those that are usual.
func randomPeg(random *rand.Rand, id string) impl.Peg {
	if random.Intn(2) == 0 {
		return peg(id, 50+random.Int63n(30), 200+random.Int63n(300), 20+random.Int63n(21))
	}
	return peg(id, 20+random.Int63n(181), 100+random.Int63n(901), 10+random.Int63n(91))
}

func randomPegs(random *rand.Rand, many int) []impl.Peg {
	list := make([]impl.Peg, many)
	for k := range list {
		list[k] = randomPeg(random, fmt.Sprintf("p%03d", k))
	}
	return list
}

// wayOf is the way of a peg into any hole, found by going along the peg, and the code beside it.
func wayOf(x impl.Peg, hole int64) []int64 {
	return leastOf(x.Length, func(way int64) bool { return x.Thick+way/x.Taper >= hole })
}

// checkPegsFail checks the functions with pegs for a wrong list, or for numbers that are not as stated.
func checkPegsFail(t *testing.T, list []impl.Peg, holes []int64, way, turns, want int64) {
	t.Helper()
	name := fmt.Sprintf(" of %d pegs %s, %v, %d, %d", len(list), shown(list), holes, way, turns)
	given, code := impl.FitPegs(list, holes, way)
	same(t, "FitPegs"+name, []int64{int64(len(given)), code}, []int64{0, want})
	wear, code := impl.WearOfPegs(list, turns)
	same(t, "WearOfPegs"+name, []int64{int64(len(wear)), code}, []int64{0, want})
}

// checkInvalidPegs checks that a list is as nothing, whatever else is wrong.
func checkInvalidPegs(t *testing.T, list []impl.Peg) {
	t.Helper()
	same(t, "ValidPegs of "+shown(list), impl.ValidPegs(list), false)
	for _, n := range []int64{math.MinInt64, -1, 0, 20, 200, 201, 1001, 1000001, math.MaxInt64} {
		for _, holes := range [][]int64{nil, {n}, {66, n}, slices.Repeat([]int64{n}, len(list)), slices.Repeat([]int64{66}, 9)} {
			checkPegsFail(t, list, holes, n, n, impl.ErrInvalid)
			checkPegsFail(t, list, holes, 200, 0, impl.ErrInvalid)
		}
	}
}

// checkInvalidPeg checks that a peg is as nothing for each function with one.
func checkInvalidPeg(t *testing.T, x impl.Peg) {
	t.Helper()
	name := " of " + shown(x)
	same(t, "PegText"+name, impl.PegText(x), "")
	check := func(function string, number, code int64) {
		t.Helper()
		same(t, function+name, []int64{number, code}, []int64{0, impl.ErrInvalid})
	}
	for _, n := range []int64{math.MinInt64, -1, 0, 19, 20, 100, 200, 201, 1000, 1001, math.MaxInt64} {
		number, code := impl.PegAt(x, n)
		check("PegAt", number, code)
		number, code = impl.WayIn(x, n)
		check("WayIn", number, code)
		for _, other := range []int64{math.MinInt64, 0, 20, 66, 1001, n} {
			number, code = impl.TurnFor(x, n, other)
			check("TurnFor", number, code)
			number, code = impl.ReamTo(n, x, other)
			check("ReamTo", number, code)
		}
	}
	checkInvalidPegs(t, []impl.Peg{x})
	checkInvalidPegs(t, []impl.Peg{x, peg("zzzzzzzzzz", 60, 400, 30)})
	checkInvalidPegs(t, []impl.Peg{peg("a", 60, 400, 30), x})
}

func checkPegAt(t *testing.T, x impl.Peg, way, want, code int64) {
	t.Helper()
	thick, got := impl.PegAt(x, way)
	same(t, fmt.Sprintf("PegAt of %+v at %d", x, way), []int64{thick, got}, []int64{want, code})
}

// checkWayIn checks a way that is told, and that the peg fills the hole there and not ahead of it.
func checkWayIn(t *testing.T, x impl.Peg, hole, want, code int64) {
	t.Helper()
	name := fmt.Sprintf("WayIn of %+v into %d", x, hole)
	way, got := impl.WayIn(x, hole)
	same(t, name, []int64{way, got}, []int64{want, code})
	if got == impl.ErrNotFound {
		thick, code := impl.PegAt(x, x.Length)
		same(t, name+" is too wide", []any{thick < hole, code}, []any{true, int64(impl.OK)})
	}
	if got != impl.OK {
		return
	}
	thick, code := impl.PegAt(x, way)
	same(t, name+" is filled", []any{thick >= hole, code}, []any{true, int64(impl.OK)})
	if way > 0 {
		thick, code = impl.PegAt(x, way-1)
		same(t, name+" is just filled", []any{thick < hole, code}, []any{true, int64(impl.OK)})
	}
}

// checkPeg checks that a peg is valid, and as thick as it should be everywhere.
func checkPeg(t *testing.T, x impl.Peg) {
	t.Helper()
	same(t, "ValidPegs of "+shown(x), impl.ValidPegs([]impl.Peg{x}), true)
	same(t, "PegText of "+shown(x), impl.PegText(x), fmt.Sprintf("%s %d,%d,%d", x.Id, x.Thick, x.Length, x.Taper))
	for way := int64(0); way <= x.Length; way += 7 {
		checkPegAt(t, x, way, x.Thick+way/x.Taper, impl.OK)
	}
	checkPegAt(t, x, x.Length, x.Thick+x.Length/x.Taper, impl.OK)
	checkPegAt(t, x, x.Length+1, 0, impl.ErrRange)
	for hole := int64(20); hole <= 200; hole++ {
		want := wayOf(x, hole)
		checkWayIn(t, x, hole, want[0], want[1])
	}
}

func TestPromise13Constants(t *testing.T) {
	same(t, "constants", []int64{impl.MaxPegs, impl.MaxHole}, []int64{8, 200})
}

func TestPromise13ValidPeg(t *testing.T) {
	least, most := peg("pa", 20, 100, 10), peg("pa", 200, 1000, 100)
	for field, limits := range pegLimits {
		for _, n := range slices.Concat(around(limits[0], limits[1]), outside(limits[0], limits[1])) {
			for _, x := range []impl.Peg{least, examplePeg, most} {
				*[]*int64{&x.Thick, &x.Length, &x.Taper}[field] = n
				if limits[0] <= n && n <= limits[1] {
					checkPeg(t, x)
				} else {
					checkInvalidPeg(t, x)
				}
			}
		}
	}
	for _, id := range []string{"a", "z9", "abcdefghij"} {
		checkPeg(t, peg(id, 60, 400, 30))
	}
	for _, id := range []string{"", "1", "A", "a b", "a ", "a-b", "abcdefghijk", "\u00e9", "a\x00"} {
		checkInvalidPeg(t, peg(id, 60, 400, 30))
	}
	checkInvalidPeg(t, impl.Peg{})
}

func TestPromise13ValidPegs(t *testing.T) {
	random := rand.New(rand.NewSource(171))
	for many := range impl.MaxPegs + 1 {
		same(t, fmt.Sprintf("ValidPegs of %d", many), impl.ValidPegs(randomPegs(random, many)), true)
	}
	checkInvalidPegs(t, randomPegs(random, impl.MaxPegs+1))
	checkInvalidPegs(t, randomPegs(random, 1000))
	same(t, "ValidPegs in bytewise order", impl.ValidPegs(namedPegs("a", "a0", "a10", "a2", "aa", "b", "z")), true)
	for _, ids := range [][]string{{"a", "a"}, {"b", "a"}, {"a2", "a10"}, {"aa", "a"}, {"a", "b", "b"}, {"a", "c", "b"}, {"b", "c", "a"}, {"a", "b", "a", "b"}} {
		checkInvalidPegs(t, namedPegs(ids...))
	}
}

func TestPromise13PegsFillTheirHoles(t *testing.T) {
	random := rand.New(rand.NewSource(172))
	for range 300 {
		checkPeg(t, randomPeg(random, "p"))
	}
}

func TestPromise13PegAtTellsItsValue(t *testing.T) {
	for _, c := range [][3]int64{{0, 60, 0}, {1, 60, 0}, {29, 60, 0}, {30, 61, 0}, {31, 61, 0}, {59, 61, 0}, {60, 62, 0}, {300, 70, 0}, {299, 69, 0}, {389, 72, 0}, {390, 73, 0}, {399, 73, 0}, {400, 73, 0}, {401, 0, 2}, {1000, 0, 2}, {1001, 0, 2}, {-1, 0, 2}} {
		checkPegAt(t, examplePeg, c[0], c[1], c[2])
	}
	longest := peg("a", 200, 1000, 10)
	for _, c := range [][3]int64{{0, 200, 0}, {9, 200, 0}, {10, 201, 0}, {999, 299, 0}, {1000, 300, 0}, {1001, 0, 2}} {
		checkPegAt(t, longest, c[0], c[1], c[2])
	}
	shortest := peg("a", 20, 100, 100)
	for _, c := range [][3]int64{{0, 20, 0}, {99, 20, 0}, {100, 21, 0}, {101, 0, 2}} {
		checkPegAt(t, shortest, c[0], c[1], c[2])
	}
	for _, x := range []impl.Peg{examplePeg, longest, shortest} {
		for _, way := range outside(0, x.Length) {
			checkPegAt(t, x, way, 0, impl.ErrRange)
		}
	}
}

func TestPromise13WayInTellsItsValue(t *testing.T) {
	for _, c := range [][3]int64{
		// Just at the thin end, and narrower than it.
		{60, 0, 0}, {59, 0, 0}, {20, 0, 0}, {61, 30, 0}, {62, 60, 0}, {65, 150, 0}, {72, 360, 0}, {73, 390, 0}, {74, 0, 3}, {75, 0, 3}, {200, 0, 3},
		{19, 0, 2}, {201, 0, 2}, {0, 0, 2}, {-60, 0, 2},
	} {
		checkWayIn(t, examplePeg, c[0], c[1], c[2])
	}
	// The whole Length is just enough, and one less is not.
	checkWayIn(t, peg("a", 60, 390, 30), 73, 390, impl.OK)
	checkWayIn(t, peg("a", 60, 389, 30), 73, 0, impl.ErrNotFound)
	checkWayIn(t, peg("a", 20, 100, 100), 21, 100, impl.OK)
	checkWayIn(t, peg("a", 20, 100, 100), 22, 0, impl.ErrNotFound)
	checkWayIn(t, peg("a", 100, 1000, 10), 200, 1000, impl.OK)
	checkWayIn(t, peg("a", 99, 1000, 10), 200, 0, impl.ErrNotFound)
	checkWayIn(t, peg("a", 99, 1000, 10), 199, 1000, impl.OK)
	checkWayIn(t, peg("a", 200, 1000, 10), 200, 0, impl.OK)
	checkWayIn(t, peg("a", 199, 1000, 100), 200, 100, impl.OK)
	for _, hole := range outside(20, 200) {
		for _, x := range []impl.Peg{examplePeg, peg("a", 20, 100, 10), peg("a", 200, 1000, 10)} {
			checkWayIn(t, x, hole, 0, impl.ErrRange)
		}
	}
}

func checkTurn(t *testing.T, x impl.Peg, hole, stretch, want, code int64) {
	t.Helper()
	turn, got := impl.TurnFor(x, hole, stretch)
	same(t, fmt.Sprintf("TurnFor of %+v in %d, %d", x, hole, stretch), []int64{turn, got}, []int64{want, code})
}

func TestPromise13Turns(t *testing.T) {
	random := rand.New(rand.NewSource(173))
	for range 5000 {
		x := randomPeg(random, "p")
		for _, hole := range []int64{20 + random.Int63n(181), max(20, x.Thick-random.Int63n(3)), min(200, x.Thick+random.Int63n(10))} {
			for _, stretch := range []int64{0, 1, 100, random.Int63n(101)} {
				way := wayOf(x, hole)
				if way[1] != impl.OK {
					checkTurn(t, x, hole, stretch, 0, impl.ErrNotFound)
					continue
				}
				thick := x.Thick + way[0]/x.Taper
				want := nearestOf(big.NewInt(stretch*360000), big.NewInt(3142*thick)).Int64()
				checkTurn(t, x, hole, stretch, want, impl.OK)
			}
		}
	}
}

// TestPromise13AllTurns is here for the turns that lie so near to a half that little changes them.
func TestPromise13AllTurns(t *testing.T) {
	for thick := int64(20); thick <= 200; thick++ {
		for stretch := range int64(101) {
			want := nearestOf(big.NewInt(stretch*360000), big.NewInt(3142*thick)).Int64()
			checkTurn(t, peg("p", thick, 100, 10), 20, stretch, want, impl.OK)
		}
	}
}

func TestPromise13TurnForTellsItsValue(t *testing.T) {
	for _, c := range [][4]int64{
		{65, 10, 18, 0}, {65, 0, 0, 0}, {65, 100, 176, 0}, {65, 101, 0, 2}, {65, -1, 0, 2}, {74, 10, 0, 3}, {74, 0, 0, 3}, {74, 101, 0, 2}, {201, 10, 0, 2}, {19, 10, 0, 2}, {73, 10, 16, 0},
		// In a hole that is narrower than the peg, it is as thick as its thin end.
		{60, 10, 19, 0}, {59, 10, 19, 0}, {20, 10, 19, 0}, {20, 100, 191, 0},
	} {
		checkTurn(t, examplePeg, c[0], c[1], c[2], c[3])
	}
	// 572.88, 2.7498, 2.4908, 2.509, 0.573 and 57.29.
	checkTurn(t, peg("a", 20, 100, 10), 20, 100, 573, impl.OK)
	checkTurn(t, peg("a", 125, 100, 10), 125, 3, 3, impl.OK)
	checkTurn(t, peg("a", 138, 100, 10), 20, 3, 2, impl.OK)
	checkTurn(t, peg("a", 137, 100, 10), 20, 3, 3, impl.OK)
	checkTurn(t, peg("a", 200, 100, 10), 200, 1, 1, impl.OK)
	checkTurn(t, peg("a", 200, 100, 10), 200, 100, 57, impl.OK)
	for _, x := range []impl.Peg{examplePeg, peg("a", 20, 100, 100)} {
		for _, hole := range outside(20, 200) {
			for _, stretch := range []int64{-1, 0, 10, 100, 101, hole} {
				checkTurn(t, x, hole, stretch, 0, impl.ErrRange)
			}
		}
		// A stretch is seen to be wrong ahead of a hole that is too wide.
		for _, stretch := range outside(0, 100) {
			for _, hole := range []int64{20, 60, 74, 200} {
				checkTurn(t, x, hole, stretch, 0, impl.ErrRange)
			}
		}
	}
}

func checkWear(t *testing.T, list []impl.Peg, turns int64, want []int64, code int64) {
	t.Helper()
	wear, got := impl.WearOfPegs(list, turns)
	same(t, fmt.Sprintf("WearOfPegs of %s, %d", shown(list), turns), []any{fmt.Sprint(wear), got}, []any{fmt.Sprint(want), code})
}

func TestPromise13WearOfPegs(t *testing.T) {
	random := rand.New(rand.NewSource(174))
	for range 3000 {
		list := randomPegs(random, random.Intn(9))
		for _, turns := range []int64{0, 1000000, random.Int63n(1000001), random.Int63n(1000)} {
			want := []int64{}
			for _, x := range list {
				want = append(want, quotientOf(turns, x.Taper, 10000))
			}
			checkWear(t, list, turns, want, impl.OK)
		}
	}
}

func TestPromise13WearTellsItsValue(t *testing.T) {
	list := []impl.Peg{examplePeg, peg("pb", 60, 400, 10), peg("pc", 60, 400, 100)}
	checkWear(t, list[:1], 1000, []int64{3}, impl.OK)
	checkWear(t, list, 0, []int64{0, 0, 0}, impl.OK)
	checkWear(t, list, 1000000, []int64{3000, 1000, 10000}, impl.OK)
	// 1.497, 0.499 and 4.99; 1.5, 0.5 and 5; 1.503, 0.501 and 5.01.
	checkWear(t, list, 499, []int64{1, 0, 5}, impl.OK)
	checkWear(t, list, 500, []int64{2, 1, 5}, impl.OK)
	checkWear(t, list, 501, []int64{2, 1, 5}, impl.OK)
	checkWear(t, list, 50, []int64{0, 0, 1}, impl.OK)
	checkWear(t, list, 49, []int64{0, 0, 0}, impl.OK)
	checkWear(t, nil, 1000, nil, impl.OK)
	checkWear(t, []impl.Peg{}, 0, nil, impl.OK)
	for _, turns := range outside(0, 1000000) {
		checkWear(t, list, turns, nil, impl.ErrRange)
		checkWear(t, nil, turns, nil, impl.ErrRange)
	}
}

func TestPromise13PegTexts(t *testing.T) {
	random := rand.New(rand.NewSource(175))
	list := []impl.Peg{examplePeg, peg("a", 20, 100, 10), peg("abcdefghij", 200, 1000, 100), peg("z9", 20, 1000, 10), peg("z9", 200, 100, 100)}
	for range 1000 {
		list = append(list, randomPeg(random, fmt.Sprintf("%c%x", 'a'+random.Intn(26), random.Int31())))
	}
	for _, x := range list {
		s := fmt.Sprintf("%s %d,%d,%d", x.Id, x.Thick, x.Length, x.Taper)
		same(t, "PegText", impl.PegText(x), s)
		got, ok := impl.ReadPeg(s)
		same(t, "ReadPeg of "+s, []any{got, ok}, []any{x, true})
	}
}

// wrongPegTexts are texts of no peg, many of them nearly canonical.
func wrongPegTexts() []string {
	list := []string{
		"", " ", "pa", "pa ", "pa -", " 60,400,30", "60,400,30", "pa  60,400,30", " pa 60,400,30", "pa 60,400,30 ", "pa 60,400,30\n", "pa\t60,400,30", "pa 60, 400,30", "pa 60 400 30", "pa,60,400,30",
		"pa 60", "pa 60,400", "pa 60,400,30,1", "pa 60,400,", "pa ,400,30", "pa 60,,30", "pa 60,400,30,", "PA 60,400,30", "1p 60,400,30", "abcdefghijk 60,400,30", "p-a 60,400,30", "pa 060,400,30", "pa +60,400,30",
		"pa 60,400,-30", "pa 60,4e2,30", "pa x,400,30", "pa q 60,400,30", "pa 60,400,30 x", "pa 60;400;30", "pa\u00a060,400,30", "\u00e9 60,400,30", "pa 60,400,\u0663", "pa 60,400,30.0", "pa 60,400,-", "pa -,400,30", "pa 60,400,30\x00", "pa 60@400,30",
	}
	for field, limits := range pegLimits {
		for _, wrong := range outside(limits[0], limits[1]) {
			parts := []string{"60", "400", "30"}
			parts[field] = fmt.Sprint(wrong)
			list = append(list, "pa "+parts[0]+","+parts[1]+","+parts[2])
		}
	}
	return append(list, "pa 60,400,18446744073709551646", "pa 18446744073709551676,400,30")
}

func TestPromise13ReadPegRefuses(t *testing.T) {
	for _, s := range slices.Concat(texts, wrongPegTexts()) {
		x, ok := impl.ReadPeg(s)
		same(t, fmt.Sprintf("ReadPeg(%s)", shown(s)), []any{x, ok}, []any{impl.Peg{}, false})
	}
}
