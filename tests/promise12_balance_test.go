package tests

import (
	"fmt"
	"math/rand"
	"slices"
	"sort"
	"testing"

	"loop.example/g01061/impl"
)

// turnOf returns how strongly a bow turns around a place; it balances there or beyond where this is
// not negative.
func turnOf(list []impl.Part, balance int64) int64 {
	turn := int64(0)
	for _, x := range list {
		turn += x.Mass * (x.At - balance)
	}
	return turn
}

// turnWith is turnOf of a bow with a further part of any mass.
func turnWith(list []impl.Part, at, mass, balance int64) int64 {
	return turnOf(slices.Concat(list, []impl.Part{part("further", at, mass)}), balance)
}

// checkAdded checks a mass that is told, and that it is just enough.
func checkAdded(t *testing.T, list []impl.Part, at, balance, want, code int64) {
	t.Helper()
	name := fmt.Sprintf("AddedMass of %s at %d for %d", shown(list), at, balance)
	mass, got := impl.AddedMass(list, at, balance)
	same(t, name, []int64{mass, got}, []int64{want, code})
	switch got {
	case impl.OK:
		same(t, name+" is enough", turnWith(list, at, mass, balance) >= 0, true)
		same(t, name+" is just enough", mass == 0 || turnWith(list, at, mass-1, balance) < 0, true)
	case impl.ErrFull:
		same(t, name+" is too much", turnWith(list, at, impl.MaxBow, balance) < 0, true)
		same(t, name+" is something", turnWith(list, at, 12*impl.MaxBow*impl.MaxStick, balance) >= 0, true)
	case impl.ErrNotFound:
		same(t, name+" is never enough", turnWith(list, at, 12*impl.MaxBow*impl.MaxStick, balance) < 0, true)
	}
}

func checkAddedByDefinition(t *testing.T, list []impl.Part, at, balance int64) int64 {
	t.Helper()
	isEnough := func(mass int) bool { return turnWith(list, at, int64(mass), balance) >= 0 }
	mass, code := int64(sort.Search(impl.MaxBow+1, isEnough)), int64(impl.OK)
	switch {
	case isEnough(0):
		mass = 0
	case at <= balance:
		mass, code = 0, impl.ErrNotFound
	case mass > impl.MaxBow:
		mass, code = 0, impl.ErrFull
	}
	checkAdded(t, list, at, balance, mass, code)
	return code
}

// someBalances are places near to where a bow balances, and anywhere.
func someBalances(random *rand.Rand, list []impl.Part) []int64 {
	near, _ := impl.BalanceOf(list)
	balances := []int64{0, 8000, random.Int63n(8001)}
	for _, off := range []int64{-2, -1, 0, 1, 2, 30} {
		if 0 <= near+off && near+off <= 8000 {
			balances = append(balances, near+off)
		}
	}
	return balances
}

func TestPromise12AddedMassesAreJustEnough(t *testing.T) {
	random := rand.New(rand.NewSource(166))
	seen := map[int64]int{}
	for range 3000 {
		list := anyBow(random)
		for _, balance := range someBalances(random, list) {
			for _, at := range []int64{0, 8000, balance, min(8000, balance+1), random.Int63n(8001), random.Int63n(100)} {
				seen[checkAddedByDefinition(t, list, at, balance)]++
			}
		}
	}
	checkSeen(t, seen, 1000)
	if seen[impl.ErrFull] < 1000 {
		t.Errorf("too few masses that are too great: %v", seen)
	}
}

func TestPromise12AddedMassTellsItsValue(t *testing.T) {
	for _, c := range []struct {
		list                    []impl.Part
		at, balance, want, code int64
	}{
		// At 350, 2600000 are missing.
		{fullBow(), 700, 350, 7429, impl.OK}, {fullBow(), 8000, 350, 340, impl.OK}, {fullBow(), 400, 350, 52000, impl.OK}, {fullBow(), 402, 350, 50000, impl.OK}, {fullBow(), 376, 350, 100000, impl.OK}, {fullBow(), 375, 350, 0, impl.ErrFull}, {fullBow(), 351, 350, 0, impl.ErrFull},
		// No mass helps at the place or below it.
		{fullBow(), 350, 350, 0, impl.ErrNotFound}, {fullBow(), 349, 350, 0, impl.ErrNotFound}, {fullBow(), 300, 350, 0, impl.ErrNotFound}, {fullBow(), 0, 350, 0, impl.ErrNotFound}, {fullBow(), 8000, 8000, 0, impl.ErrNotFound}, {fullBow(), 0, 8000, 0, impl.ErrNotFound},
		// It balances beyond 306 already, wherever the mass would be, and not at 307, although that is its rounded balance.
		{fullBow(), 700, 306, 0, impl.OK}, {fullBow(), 306, 306, 0, impl.OK}, {fullBow(), 0, 306, 0, impl.OK}, {fullBow(), 0, 300, 0, impl.OK}, {fullBow(), 0, 0, 0, impl.OK}, {fullBow(), 8000, 0, 0, impl.OK}, {fullBow(), 307, 307, 0, impl.ErrNotFound}, {fullBow(), 308, 307, 20000, impl.OK}, {fullBow(), 700, 307, 51, impl.OK},
		// A bow that balances just at a place needs nothing there, and one that turns by 1 needs 1.
		{bowAt(0, 1, 2, 1), 0, 1, 0, impl.OK}, {bowAt(0, 1, 2, 1), 2, 1, 0, impl.OK}, {bowAt(0, 2, 2, 1), 2, 1, 1, impl.OK}, {bowAt(0, 2, 2, 1), 1, 1, 0, impl.ErrNotFound}, {bowAt(0, 2, 2, 1), 8000, 1, 1, impl.OK}, {bowAt(0, 1, 2, 2), 0, 1, 0, impl.OK},
		{bowAt(8000, 5), 0, 8000, 0, impl.OK}, {bowAt(8000, 5), 8000, 8000, 0, impl.OK}, {bowAt(7999, 5), 8000, 8000, 0, impl.ErrNotFound}, {bowAt(0, 5), 0, 0, 0, impl.OK}, {bowAt(0, 5), 8000, 0, 0, impl.OK},
		// Quotients that are whole and that are not.
		{bowAt(0, 6), 3, 1, 3, impl.OK}, {bowAt(0, 7), 3, 1, 4, impl.OK}, {bowAt(0, 5), 3, 1, 3, impl.OK}, {bowAt(0, 6), 4, 1, 2, impl.OK}, {bowAt(0, 7), 4, 1, 3, impl.OK}, {bowAt(0, 1), 8000, 7999, 7999, impl.OK}, {bowAt(0, 12), 8000, 7999, 95988, impl.OK}, {bowAt(0, 13), 8000, 7999, 0, impl.ErrFull},
		// Just as much as MaxBow, and one more.
		{bowAt(0, 100000), 2, 1, 100000, impl.OK}, {bowAt(0, 100000, 0, 1), 2, 1, 0, impl.ErrFull}, {bowAt(0, 99999), 2, 1, 99999, impl.OK}, {bowAt(0, 100000, 0, 99999), 3, 1, 100000, impl.OK}, {bowAt(0, 100000, 0, 100000), 3, 1, 100000, impl.OK}, {bowAt(0, 100000, 0, 100000, 0, 1), 3, 1, 0, impl.ErrFull}, {bowAt(0, 100000), 8000, 4000, 100000, impl.OK}, {bowAt(0, 100000), 7999, 4000, 0, impl.ErrFull},
		// A bow of MaxParts parts takes a further one too.
		{bowAt(slices.Repeat([]int64{0, 8000}, 12)...), 2, 1, 96000, impl.OK}, {bowAt(slices.Repeat([]int64{0, 100000}, 12)...), 8000, 1, 151, impl.OK}, {bowAt(slices.Repeat([]int64{0, 100000}, 12)...), 8000, 7999, 0, impl.ErrFull}, {bowAt(slices.Repeat([]int64{8000, 100000}, 12)...), 0, 8000, 0, impl.OK},
	} {
		checkAdded(t, c.list, c.at, c.balance, c.want, c.code)
		same(t, "code by definition", checkAddedByDefinition(t, c.list, c.at, c.balance), c.code)
	}
}

// withPlace returns a bow with another place of a part.
func withPlace(list []impl.Part, k int, at int64) []impl.Part {
	moved := slices.Clone(list)
	moved[k].At = at
	return moved
}

// checkMoved checks a place that is told, and that it is just enough.
func checkMoved(t *testing.T, list []impl.Part, k int, balance, want, code int64) {
	t.Helper()
	name := fmt.Sprintf("MovedPart of %s, %d for %d", shown(list), k, balance)
	at, got := impl.MovedPart(list, list[k].Id, balance)
	same(t, name, []int64{at, got}, []int64{want, code})
	if got != impl.OK {
		return
	}
	same(t, name+" is enough", turnOf(withPlace(list, k, at), balance) >= 0, true)
	same(t, name+" is just enough", at == 0 || turnOf(withPlace(list, k, at-1), balance) < 0, true)
	mass, code := impl.AddedMass(withPlace(list, k, at), 0, balance)
	same(t, name+" needs no mass then", []int64{mass, code}, []int64{0, impl.OK})
}

func TestPromise12MovedPartsAreJustEnough(t *testing.T) {
	random := rand.New(rand.NewSource(167))
	seen, kept, atEnd := map[int64]int{}, 0, 0
	for range 400 {
		list := anyBow(random)
		for _, balance := range someBalances(random, list) {
			k := random.Intn(len(list))
			want := leastOf(8000, func(at int64) bool { return turnOf(withPlace(list, k, at), balance) >= 0 })
			if want[1] != impl.OK {
				want[1] = impl.ErrState
			}
			checkMoved(t, list, k, balance, want[0], want[1])
			seen[want[1]]++
			if want[1] == impl.OK && want[0] < list[k].At {
				kept++
			}
			if want[1] == impl.OK && want[0] == 0 {
				atEnd++
			}
		}
	}
	if min(seen[impl.OK], seen[impl.ErrState], kept, atEnd) < 100 {
		t.Errorf("too few tests of a kind: %v, %d moved downwards, %d of them to 0", seen, kept, atEnd)
	}
}

func TestPromise12MovedPartTellsItsValue(t *testing.T) {
	heavy, light := bowAt(0, 100000, 0, 1), bowAt(0, 3, 8000, 3)
	for _, c := range []struct {
		list                []impl.Part
		k                   int
		balance, want, code int64
	}{
		{fullBow(), 1, 310, 725, impl.OK}, {fullBow(), 0, 310, 62, impl.OK}, {fullBow(), 2, 310, 356, impl.OK}, {fullBow(), 1, 8000, 0, impl.ErrState},
		// Parts that need not be moved: the least place is below theirs.
		{fullBow(), 1, 306, 695, impl.OK}, {fullBow(), 0, 306, 48, impl.OK}, {fullBow(), 2, 306, 349, impl.OK}, {fullBow(), 1, 307, 703, impl.OK}, {fullBow(), 1, 0, 0, impl.OK}, {fullBow(), 0, 0, 0, impl.OK},
		// Without its own moment, the head leaves 12800000, and the frog 17500000.
		{fullBow(), 1, 213, 0, impl.OK}, {fullBow(), 1, 214, 5, impl.OK}, {fullBow(), 0, 291, 0, impl.OK}, {fullBow(), 0, 292, 2, impl.OK}, {fullBow(), 1, 1280, 8000, impl.OK}, {fullBow(), 1, 1281, 0, impl.ErrState},
		// The only part goes to the place itself.
		{bowAt(7, 5), 0, 0, 0, impl.OK}, {bowAt(7, 5), 0, 1, 1, impl.OK}, {bowAt(7, 5), 0, 7, 7, impl.OK}, {bowAt(7, 5), 0, 8000, 8000, impl.OK}, {bowAt(8000, 1), 0, 0, 0, impl.OK},
		// Quotients that are whole and that are not.
		{bowAt(0, 1, 0, 2), 1, 2, 3, impl.OK}, {bowAt(0, 1, 0, 2), 1, 1, 2, impl.OK}, {bowAt(0, 1, 0, 2), 0, 1, 3, impl.OK}, {bowAt(3, 1, 0, 2), 1, 1, 0, impl.OK}, {bowAt(2, 1, 0, 2), 1, 1, 1, impl.OK}, {bowAt(4, 1, 0, 2), 1, 1, 0, impl.OK}, {bowAt(5, 1, 9, 3), 1, 4, 4, impl.OK},
		// Just as far as MaxStick, and one more.
		{bowAt(0, 1, 0, 1), 0, 4000, 8000, impl.OK}, {bowAt(0, 1, 0, 1), 0, 4001, 0, impl.ErrState}, {light, 0, 8000, 8000, impl.OK}, {light, 1, 4000, 8000, impl.OK}, {light, 1, 4001, 0, impl.ErrState}, {light, 0, 4000, 0, impl.OK}, {light, 0, 4001, 2, impl.OK}, {heavy, 1, 1, 0, impl.ErrState}, {heavy, 0, 7999, 8000, impl.OK}, {heavy, 0, 8000, 0, impl.ErrState}, {bowAt(7999, 1, 0, 1), 1, 8000, 0, impl.ErrState},
		{bowAt(slices.Repeat([]int64{8000, 100000}, 12)...), 11, 8000, 8000, impl.OK}, {bowAt(slices.Repeat([]int64{0, 100000}, 12)...), 11, 666, 7992, impl.OK}, {bowAt(slices.Repeat([]int64{0, 100000}, 12)...), 11, 667, 0, impl.ErrState},
	} {
		checkMoved(t, c.list, c.k, c.balance, c.want, c.code)
	}
}

func TestPromise12BalanceOrderOfErrors(t *testing.T) {
	for _, list := range [][]impl.Part{fullBow(), bowAt(0, 1), bowAt(slices.Repeat([]int64{8000, 100000}, 12)...)} {
		for _, wrong := range outside(0, 8000) {
			for _, id := range []string{"frog", "p00000", "none", ""} {
				checkBowFails(t, list, id, 0, wrong, impl.ErrRange)
				checkBowFails(t, list, id, wrong, wrong, impl.ErrRange)
			}
			for _, balance := range []int64{0, 350, 8000} {
				checkAdded(t, list, wrong, balance, 0, impl.ErrRange)
				checkAdded(t, list, balance, wrong, 0, impl.ErrRange)
			}
		}
		for _, id := range slices.Concat(texts, []string{"none", "fro", "frogs", "p0000", "p000000"}) {
			for _, balance := range []int64{0, 306, 8000} {
				at, code := impl.MovedPart(list, id, balance)
				same(t, fmt.Sprintf("MovedPart %q for %d", id, balance), []int64{at, code}, []int64{0, impl.ErrNotFound})
			}
		}
	}
}
