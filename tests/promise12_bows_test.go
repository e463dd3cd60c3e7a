package tests

import (
	"fmt"
	"math"
	"math/big"
	"math/rand"
	"slices"
	"testing"

	"loop.example/g01061/impl"
)

func part(id string, at, mass int64) impl.Part { return impl.Part{Id: id, At: at, Mass: mass} }

// fullBow is the bow of the stage test, with a mass of 60000 and a moment of 18400000.
func fullBow() []impl.Part {
	return []impl.Part{part("frog", 50, 18000), part("head", 700, 8000), part("stick", 350, 34000)}
}

// bowAt returns a bow of parts at told places with told masses, in turn.
func bowAt(numbers ...int64) []impl.Part {
	list := []impl.Part{}
	for k := 0; k < len(numbers); k += 2 {
		list = append(list, part(fmt.Sprintf("p%05d", k), numbers[k], numbers[k+1]))
	}
	return list
}

// namedParts returns parts with told Ids.
func namedParts(ids ...string) []impl.Part {
	list := make([]impl.Part, len(ids))
	for k, id := range ids {
		list[k] = part(id, 350, 1000)
	}
	return list
}

// randomBow has parts whose places and masses are at most as great as told.
func randomBow(random *rand.Rand, many int, farthest, heaviest int64) []impl.Part {
	numbers := []int64{}
	for range many {
		numbers = append(numbers, random.Int63n(farthest+1), 1+random.Int63n(heaviest))
	}
	return bowAt(numbers...)
}

// anyBow has any number of parts, which are short and light, or over their whole ranges.
func anyBow(random *rand.Rand) []impl.Part {
	many := 1 + random.Intn(impl.MaxParts)
	if random.Intn(2) == 0 {
		return randomBow(random, many, 20, 9)
	}
	return randomBow(random, many, impl.MaxStick, impl.MaxBow)
}

// checkBowFails checks the functions with a bow and numbers for a wrong bow, or for numbers that are not as stated.
func checkBowFails(t *testing.T, list []impl.Part, id string, at, balance, want int64) {
	t.Helper()
	name := fmt.Sprintf(" of %s, %q, %d, %d", shown(list), id, at, balance)
	check := func(function string, number, code int64) {
		t.Helper()
		same(t, function+name, []int64{number, code}, []int64{0, want})
	}
	mass, code := impl.AddedMass(list, at, balance)
	check("AddedMass", mass, code)
	place, code := impl.MovedPart(list, id, balance)
	check("MovedPart", place, code)
	inertia, code := impl.InertiaOf(list, balance)
	check("InertiaOf", inertia, code)
}

// checkInvalidBow checks that a list is as nothing, whatever else is wrong.
func checkInvalidBow(t *testing.T, list []impl.Part) {
	t.Helper()
	name := fmt.Sprintf(" of %d parts %s", len(list), shown(list))
	same(t, "ValidBow"+name, impl.ValidBow(list), false)
	check := func(function string, number, code int64) {
		t.Helper()
		same(t, function+name, []int64{number, code}, []int64{0, impl.ErrInvalid})
	}
	number, code := impl.BowMass(list)
	check("BowMass", number, code)
	number, code = impl.BalanceOf(list)
	check("BalanceOf", number, code)
	number, code = impl.HeaviestPart(list)
	check("HeaviestPart", number, code)
	for _, id := range []string{"", "frog", "none", "A"} {
		rest, code := impl.WithoutPart(list, id)
		check("WithoutPart", int64(len(rest)), code)
		for _, n := range []int64{math.MinInt64, -1, 0, 350, 8000, 8001, math.MaxInt64} {
			checkBowFails(t, list, id, n, n, impl.ErrInvalid)
			checkBowFails(t, list, id, 0, n, impl.ErrInvalid)
			checkBowFails(t, list, id, n, 0, impl.ErrInvalid)
		}
	}
}

// checkInvalidPart checks that a part is as nothing for each function with one.
func checkInvalidPart(t *testing.T, x impl.Part) {
	t.Helper()
	same(t, "PartText of "+shown(x), impl.PartText(x), "")
	checkInvalidBow(t, []impl.Part{x})
	checkInvalidBow(t, []impl.Part{x, part("zzzzzzzzzz", 350, 1000)})
	checkInvalidBow(t, []impl.Part{part("a", 350, 1000), x})
}

// checkBow checks what is told of a bow itself.
func checkBow(t *testing.T, list []impl.Part, mass, balance, heaviest int64) {
	t.Helper()
	name := " of " + shown(list)
	same(t, "ValidBow"+name, impl.ValidBow(list), true)
	check := func(function string, number, code, want int64) {
		t.Helper()
		same(t, function+name, []int64{number, code}, []int64{want, impl.OK})
	}
	number, code := impl.BowMass(list)
	check("BowMass", number, code, mass)
	number, code = impl.BalanceOf(list)
	check("BalanceOf", number, code, balance)
	number, code = impl.HeaviestPart(list)
	check("HeaviestPart", number, code, heaviest)
}

func checkBowByDefinition(t *testing.T, list []impl.Part) {
	t.Helper()
	mass, moment, heaviest := big.NewInt(0), big.NewInt(0), len(list)-1
	for k, x := range slices.Backward(list) {
		mass.Add(mass, big.NewInt(x.Mass))
		moment.Add(moment, new(big.Int).Mul(big.NewInt(x.Mass), big.NewInt(x.At)))
		if x.Mass >= list[heaviest].Mass {
			heaviest = k
		}
	}
	checkBow(t, list, mass.Int64(), nearestOf(moment, mass).Int64(), int64(heaviest))
}

func TestPromise12Constants(t *testing.T) {
	same(t, "constants", []int64{impl.MaxParts, impl.MaxStick, impl.MaxBow}, []int64{12, 8000, 100000})
}

func TestPromise12ValidPart(t *testing.T) {
	for _, at := range []int64{0, 1, 7999, 8000} {
		checkBow(t, bowAt(at, 7), 7, at, 0)
		checkBow(t, bowAt(at, 1, at, 100000), 100001, at, 1)
	}
	for _, mass := range []int64{1, 2, 99999, 100000} {
		checkBow(t, bowAt(350, mass), mass, 350, 0)
		checkBow(t, bowAt(8000, mass), mass, 8000, 0)
		checkBow(t, bowAt(0, mass), mass, 0, 0)
	}
	for _, at := range outside(0, 8000) {
		checkInvalidPart(t, part("p", at, 1000))
	}
	for _, mass := range outside(1, 100000) {
		checkInvalidPart(t, part("p", 350, mass))
	}
	for _, id := range []string{"a", "z9", "abcdefghij"} {
		checkBow(t, namedParts(id), 1000, 350, 0)
	}
	for _, id := range []string{"", "1", "A", "a b", "a ", "a-b", "a@", "abcdefghijk", "\u00e9", "a\x00"} {
		checkInvalidPart(t, part(id, 350, 1000))
	}
	checkInvalidPart(t, impl.Part{})
}

func TestPromise12ValidBow(t *testing.T) {
	random := rand.New(rand.NewSource(161))
	for many := 1; many <= 12; many++ {
		checkBowByDefinition(t, randomBow(random, many, 8000, 100000))
	}
	checkInvalidBow(t, nil)
	checkInvalidBow(t, []impl.Part{})
	checkInvalidBow(t, randomBow(random, 13, 8000, 100000))
	checkInvalidBow(t, randomBow(random, 1000, 8000, 100000))
	same(t, "ValidBow in bytewise order", impl.ValidBow(namedParts("a", "a0", "a10", "a2", "aa", "b", "z")), true)
	for _, ids := range [][]string{{"a", "a"}, {"b", "a"}, {"a2", "a10"}, {"aa", "a"}, {"a", "b", "b"}, {"a", "c", "b"}, {"b", "c", "a"}, {"a", "b", "a", "b"}} {
		checkInvalidBow(t, namedParts(ids...))
	}
}

func TestPromise12Bows(t *testing.T) {
	random := rand.New(rand.NewSource(162))
	for range 5000 {
		checkBowByDefinition(t, anyBow(random))
	}
}

func TestPromise12BowsTellTheirValues(t *testing.T) {
	checkBow(t, fullBow(), 60000, 307, 2)
	// Balances just at the half, just below it and just above it.
	checkBow(t, bowAt(0, 1, 1, 1), 2, 1, 0)
	checkBow(t, bowAt(2, 1, 3, 1), 2, 3, 0)
	checkBow(t, bowAt(0, 3, 1, 2), 5, 0, 0)
	checkBow(t, bowAt(0, 2, 1, 3), 5, 1, 1)
	checkBow(t, bowAt(0, 50000, 1, 50000), 100000, 1, 0)
	checkBow(t, bowAt(0, 50001, 1, 50000), 100001, 0, 0)
	checkBow(t, bowAt(0, 50000, 1, 50001), 100001, 1, 1)
	checkBow(t, bowAt(7999, 1, 8000, 1), 2, 8000, 0)
	checkBow(t, bowAt(7999, 2, 8000, 1), 3, 7999, 0)
	// Several parts with the greatest mass, of which the first one counts.
	checkBow(t, bowAt(1, 4, 2, 5, 3, 5, 4, 5), 19, 3, 1)
	checkBow(t, bowAt(1, 5, 2, 4, 3, 5), 14, 2, 0)
	checkBow(t, bowAt(1, 4, 2, 3, 3, 5), 12, 2, 2)
	checkBow(t, bowAt(slices.Repeat([]int64{8000, 100000}, 12)...), 1200000, 8000, 0)
	checkBow(t, bowAt(slices.Repeat([]int64{0, 1}, 12)...), 12, 0, 0)
}

func checkInertia(t *testing.T, list []impl.Part, at, want, code int64) {
	t.Helper()
	inertia, got := impl.InertiaOf(list, at)
	same(t, fmt.Sprintf("InertiaOf %s at %d", shown(list), at), []int64{inertia, got}, []int64{want, code})
}

func TestPromise12Inertia(t *testing.T) {
	random := rand.New(rand.NewSource(163))
	for range 5000 {
		list := anyBow(random)
		for _, at := range []int64{0, 8000, random.Int63n(8001), list[0].At} {
			sum := big.NewInt(0)
			for _, x := range list {
				off := big.NewInt(x.At - at)
				sum.Add(sum, off.Mul(off, off).Mul(off, big.NewInt(x.Mass)))
			}
			checkInertia(t, list, at, sum.Div(sum, big.NewInt(1000)).Int64(), impl.OK)
		}
	}
}

func TestPromise12InertiaTellsItsValue(t *testing.T) {
	checkInertia(t, fullBow(), 300, 2490000, impl.OK)
	checkInertia(t, fullBow(), 307, 2487340, impl.OK)
	// Sums just below a multiple of 1000, just at it and just above it.
	checkInertia(t, bowAt(0, 999), 1, 0, impl.OK)
	checkInertia(t, bowAt(0, 1000), 1, 1, impl.OK)
	checkInertia(t, bowAt(0, 1001), 1, 1, impl.OK)
	checkInertia(t, bowAt(0, 1999), 1, 1, impl.OK)
	checkInertia(t, bowAt(0, 2000), 1, 2, impl.OK)
	// The whole sum is divided, not each part of it.
	checkInertia(t, bowAt(0, 500, 2, 500), 1, 1, impl.OK)
	checkInertia(t, bowAt(0, 500, 2, 499), 1, 0, impl.OK)
	checkInertia(t, bowAt(0, 999, 2, 999, 3, 1), 1, 2, impl.OK)
	checkInertia(t, bowAt(0, 999, 2, 999, 2, 1), 1, 1, impl.OK)
	// On either side of the place, and at it.
	checkInertia(t, bowAt(10, 1000), 13, 9, impl.OK)
	checkInertia(t, bowAt(16, 1000), 13, 9, impl.OK)
	checkInertia(t, bowAt(13, 100000), 13, 0, impl.OK)
	checkInertia(t, bowAt(31, 1), 0, 0, impl.OK)
	checkInertia(t, bowAt(32, 1), 0, 1, impl.OK)
	checkInertia(t, bowAt(slices.Repeat([]int64{8000, 100000}, 12)...), 0, 76800000000, impl.OK)
	checkInertia(t, bowAt(slices.Repeat([]int64{0, 100000}, 12)...), 8000, 76800000000, impl.OK)
	for _, at := range outside(0, 8000) {
		checkInertia(t, fullBow(), at, 0, impl.ErrRange)
		checkInertia(t, bowAt(0, 1), at, 0, impl.ErrRange)
	}
}

func checkWithout(t *testing.T, list []impl.Part, id string, want []impl.Part, code int64) {
	t.Helper()
	rest, got := impl.WithoutPart(list, id)
	same(t, fmt.Sprintf("WithoutPart of %s, %q", shown(list), id), []any{fmt.Sprint(rest), got}, []any{fmt.Sprint(want), code})
	if got == impl.OK {
		same(t, "ValidBow of "+shown(rest), impl.ValidBow(rest), true)
	}
}

func TestPromise12WithoutPart(t *testing.T) {
	list := fullBow()
	checkWithout(t, list, "frog", list[1:], impl.OK)
	checkWithout(t, list, "head", []impl.Part{list[0], list[2]}, impl.OK)
	checkWithout(t, list, "stick", list[:2], impl.OK)
	checkWithout(t, list[:2], "frog", list[1:2], impl.OK)
	checkWithout(t, list[:2], "head", list[:1], impl.OK)
	// The only part, and one that is none of the only part.
	checkWithout(t, list[:1], "frog", nil, impl.ErrState)
	for _, id := range slices.Concat(texts, []string{"none", "fro", "frogs", "Frog", "frog ", "head@"}) {
		checkWithout(t, list, id, nil, impl.ErrNotFound)
		checkWithout(t, list[:1], id, nil, impl.ErrNotFound)
	}
	random := rand.New(rand.NewSource(164))
	for many := 1; many <= 12; many++ {
		list := randomBow(random, many, 8000, 100000)
		for k, x := range list {
			if many == 1 {
				checkWithout(t, list, x.Id, nil, impl.ErrState)
				continue
			}
			checkWithout(t, list, x.Id, slices.Delete(slices.Clone(list), k, k+1), impl.OK)
		}
	}
}

func TestPromise12PartTexts(t *testing.T) {
	random := rand.New(rand.NewSource(165))
	list := slices.Concat(fullBow(), []impl.Part{part("a", 0, 1), part("abcdefghij", 8000, 100000), part("z9", 0, 100000), part("z9", 8000, 1)})
	for range 1000 {
		list = append(list, part(fmt.Sprintf("%c%x", 'a'+random.Intn(26), random.Int31()), random.Int63n(8001), 1+random.Int63n(100000)))
	}
	for _, x := range list {
		s := fmt.Sprintf("%s %d@%d", x.Id, x.Mass, x.At)
		same(t, "PartText", impl.PartText(x), s)
		got, ok := impl.ReadPart(s)
		same(t, "ReadPart of "+s, []any{got, ok}, []any{x, true})
	}
}

// wrongPartTexts are texts of no part, many of them nearly canonical.
func wrongPartTexts() []string {
	list := []string{
		"", " ", "@", " @", "frog", "frog ", "frog @", "frog 18000", "frog 18000@", "frog @50", " 18000@50", "18000@50", "frog  18000@50", " frog 18000@50", "frog 18000@50 ", "frog 18000@50\n",
		"frog\t18000@50", "frog 18000 @50", "frog 18000@ 50", "frog 18000 50", "frog 18000,50", "frog 18000@@50", "frog 18000@50@", "frog 18000@50@0", "frog@18000@50", "frog@18000 50", "@frog 18000@50",
		"FROG 18000@50", "1f 18000@50", "abcdefghijk 18000@50", "f-g 18000@50", "frog 018000@50", "frog 18000@050", "frog 18000@00", "frog +18000@50", "frog 18000@+50", "frog 18000@-0", "frog 18000@5e1",
		"frog 18000.0@50", "frog x@50", "frog 18000@x", "frog q 18000@50", "frog 18000@50 x", "frog\u00a018000@50", "\u00e9 18000@50", "frog 18000@\u0665", "frog 18000@50\x00", "frog 18000\uff2050", "frog -", "frog -@50", "frog 18000@-",
	}
	for _, wrong := range outside(0, 8000) {
		list = append(list, fmt.Sprintf("frog 18000@%d", wrong))
	}
	for _, wrong := range outside(1, 100000) {
		list = append(list, fmt.Sprintf("frog %d@50", wrong))
	}
	return append(list, "frog 18000@18446744073709551666", "frog 18446744073709569616@50")
}

func TestPromise12ReadPartRefuses(t *testing.T) {
	for _, s := range slices.Concat(texts, wrongPartTexts()) {
		x, ok := impl.ReadPart(s)
		same(t, fmt.Sprintf("ReadPart(%s)", shown(s)), []any{x, ok}, []any{impl.Part{}, false})
	}
}
