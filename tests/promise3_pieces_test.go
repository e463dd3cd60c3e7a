package tests

import (
	"fmt"
	"math"
	"math/big"
	"math/rand"
	"testing"

	"loop.example/g01061/impl"
)

func TestPromise3InchParts(t *testing.T) {
	for _, tenths := range unitValues() {
		want := nearestOf(big.NewInt(64*tenths), big.NewInt(254)).Int64()
		parts, code := impl.InchParts(tenths)
		same(t, fmt.Sprintf("InchParts(%d)", tenths), []int64{parts, code}, []int64{want, impl.OK})
	}
	for _, c := range [][3]int64{
		{254, 64, 0}, {0, 0, 0}, {1, 0, 0}, {2, 1, 0}, {5, 1, 0}, {6, 2, 0}, {253, 64, 0}, {impl.MaxUnit, 251968504, 0}, {-1, 0, 2}, {-254, 0, 2}, {impl.MaxUnit + 1, 0, 2},
		{math.MinInt64, 0, 2}, {math.MaxInt64, 0, 2}, {1 << 58, 0, 2},
	} {
		parts, code := impl.InchParts(c[0])
		same(t, fmt.Sprintf("InchParts(%d)", c[0]), []int64{parts, code}, c[1:])
	}
}

// takes returns how much of a length so many pieces take.
func takes(pieces, each, saw int64) int64 { return pieces*each + (pieces-1)*saw }

// checkPieces checks that the pieces can be cut, and no more.
func checkPieces(t *testing.T, length, each, saw int64) {
	t.Helper()
	pieces, code := impl.PiecesFrom(length, each, saw)
	if code != impl.OK || pieces < 0 || takes(pieces, each, saw) > length || takes(pieces+1, each, saw) <= length {
		t.Errorf("PiecesFrom(%d, %d, %d): got %d, %d", length, each, saw, pieces, code)
	}
}

func TestPromise3NoMorePiecesCanBeCut(t *testing.T) {
	for length := range int64(60) {
		for each := int64(1); each < 25; each++ {
			for saw := range int64(25) {
				checkPieces(t, length, each, saw)
			}
		}
	}
	random := rand.New(rand.NewSource(7))
	for range 5000 {
		each, saw, pieces := 1+random.Int63n(100000), random.Int63n(1001), 1+random.Int63n(5000)
		for off := int64(-1); off <= 1; off++ {
			checkPieces(t, takes(pieces, each, saw)+off, each, saw)
		}
	}
}

func TestPromise3PiecesFromTellsItsValue(t *testing.T) {
	for _, c := range [][5]int64{
		{1000, 300, 10, 3, 0}, {920, 300, 10, 3, 0}, {919, 300, 10, 2, 0}, {300, 300, 10, 1, 0}, {299, 300, 10, 0, 0}, {0, 1, 0, 0, 0}, {0, 1, 1000, 0, 0}, {1, 1, 1000, 1, 0},
		{1001, 1, 1000, 1, 0}, {1002, 1, 1000, 2, 0}, {900, 300, 0, 3, 0}, {impl.MaxUnit, 1, 0, impl.MaxUnit, 0}, {impl.MaxUnit, 1, 1, 500000000, 0},
		{impl.MaxUnit, impl.MaxUnit, 1000, 1, 0}, {impl.MaxUnit - 1, impl.MaxUnit, 1000, 0, 0}, {0, impl.MaxUnit, 1000, 0, 0},
		{-1, 300, 10, 0, 2}, {impl.MaxUnit + 1, 300, 10, 0, 2}, {1000, 0, 10, 0, 2}, {1000, -1, 10, 0, 2}, {1000, impl.MaxUnit + 1, 10, 0, 2}, {1000, 300, -1, 0, 2}, {1000, 300, 1001, 0, 2},
		{1000, -10, 10, 0, 2}, {math.MaxInt64, math.MaxInt64, math.MaxInt64, 0, 2}, {math.MinInt64, -1, 0, 0, 2}, {math.MinInt64, math.MinInt64, math.MinInt64, 0, 2}, {1000, 300, math.MaxInt64, 0, 2},
	} {
		pieces, code := impl.PiecesFrom(c[0], c[1], c[2])
		same(t, fmt.Sprintf("PiecesFrom(%d, %d, %d)", c[0], c[1], c[2]), []int64{pieces, code}, c[3:])
	}
}
