package tests

import (
	"fmt"
	"math"
	"math/big"
	"math/rand"
	"testing"

	"loop.example/g01061/impl"
)

func TestPromise2RootOfSmallNumbers(t *testing.T) {
	root := int64(0)
	for n := range int64(20000) {
		if (root+1)*(root+1) <= n {
			root++
		}
		same(t, fmt.Sprintf("RootOf(%d)", n), impl.RootOf(n), root)
	}
}

func TestPromise2RootOfAroundSquares(t *testing.T) {
	roots := []int64{46340, 65535, 65536, 94906265, 94906266, 94906267, 1000000000, 2147483647, 2147483648, 3037000498, 3037000499}
	random := rand.New(rand.NewSource(2))
	for range 2000 {
		roots = append(roots, 2+random.Int63n(3037000498))
	}
	for _, r := range roots {
		same(t, fmt.Sprintf("RootOf(%d * %d)", r, r), impl.RootOf(r*r), r)
		same(t, fmt.Sprintf("RootOf(%d * %d - 1)", r, r), impl.RootOf(r*r-1), r-1)
		same(t, fmt.Sprintf("RootOf(%d * %d + 1)", r, r), impl.RootOf(r*r+1), r)
		if r < 3037000499 {
			same(t, fmt.Sprintf("RootOf(%d * %d + %d)", r, r, 2*r), impl.RootOf(r*r+2*r), r)
		}
	}
}

func TestPromise2RootOfEnds(t *testing.T) {
	same(t, "RootOf of the greatest int64", impl.RootOf(math.MaxInt64), int64(3037000499))
	for _, n := range []int64{-1, -4, -16, math.MinInt64 + 1, math.MinInt64} {
		same(t, fmt.Sprintf("RootOf(%d)", n), impl.RootOf(n), int64(0))
	}
}

// nearestOf returns the integer nearest to a / b, farther from 0 if two are.
func nearestOf(a, b *big.Int) *big.Int {
	top, below := new(big.Int).Abs(a), new(big.Int).Abs(b)
	top.Add(top.Lsh(top, 1), below)
	q := top.Quo(top, new(big.Int).Lsh(below, 1))
	if a.Sign()*b.Sign() < 0 {
		q.Neg(q)
	}
	return q
}

func checkDivRound(t *testing.T, a, b int64) {
	t.Helper()
	want := int64(0)
	limited := -impl.MaxValue <= min(a, b) && max(a, b) <= impl.MaxValue
	if limited && b != 0 {
		want = nearestOf(big.NewInt(a), big.NewInt(b)).Int64()
	}
	same(t, fmt.Sprintf("DivRound(%d, %d)", a, b), impl.DivRound(a, b), want)
}

func TestPromise2DivRound(t *testing.T) {
	same(t, "DivRound of the document", impl.DivRound(-5, 2), int64(-3))
	for a := int64(-60); a <= 60; a++ {
		for b := int64(-20); b <= 20; b++ {
			checkDivRound(t, a, b)
		}
	}
	for _, a := range numbers {
		for _, b := range numbers {
			checkDivRound(t, a, b)
		}
	}
	random := rand.New(rand.NewSource(3))
	for range 5000 {
		b := 1 + random.Int63n(1000000)
		a := random.Int63n(1000000)*b + b/2 + random.Int63n(3) - 1
		checkDivRound(t, a, b)
		checkDivRound(t, -a, b)
		checkDivRound(t, a, -b)
		checkDivRound(t, -a, -b)
	}
}

func TestPromise2DivRoundTellsItsValue(t *testing.T) {
	for _, c := range [][3]int64{
		{5, 2, 3}, {5, -2, -3}, {-5, -2, 3}, {1, 2, 1}, {-1, 2, -1}, {4, 3, 1}, {-1, 3, 0}, {2, 3, 1}, {7, 0, 0}, {0, 0, 0}, {0, -9, 0},
		{impl.MaxValue, 1, impl.MaxValue}, {-impl.MaxValue, -1, impl.MaxValue}, {1, impl.MaxValue, 0},
		{impl.MaxValue/2 - 1, impl.MaxValue, 0}, {impl.MaxValue / 2, impl.MaxValue, 1}, {impl.MaxValue / 2, -impl.MaxValue, -1},
		{impl.MaxValue + 1, 2, 0}, {-impl.MaxValue - 1, 2, 0}, {impl.MaxValue, impl.MaxValue + 1, 0}, {impl.MaxValue, -impl.MaxValue - 1, 0},
		{math.MinInt64, -1, 0}, {math.MinInt64, math.MinInt64, 0}, {math.MaxInt64, math.MaxInt64, 0}, {math.MaxInt64, 0, 0},
	} {
		same(t, fmt.Sprintf("DivRound(%d, %d)", c[0], c[1]), impl.DivRound(c[0], c[1]), c[2])
	}
}

// blendOf is Blend as the document has it, with numbers of any size.
func blendOf(x0, y0, x1, y1, x int64) int64 {
	switch {
	case min(x0, y0, x1, y1) < -1000000 || max(x0, y0, x1, y1) > 1000000:
		return 0
	case x <= x0 || x1 <= x0:
		return y0
	case x >= x1:
		return y1
	}
	product := new(big.Int).Mul(big.NewInt(y1-y0), big.NewInt(x-x0))
	return y0 + nearestOf(product, big.NewInt(x1-x0)).Int64()
}

func checkBlend(t *testing.T, x0, y0, x1, y1, x int64) {
	t.Helper()
	name := fmt.Sprintf("Blend(%d, %d, %d, %d, %d)", x0, y0, x1, y1, x)
	same(t, name, impl.Blend(x0, y0, x1, y1, x), blendOf(x0, y0, x1, y1, x))
}

func TestPromise2Blend(t *testing.T) {
	random := rand.New(rand.NewSource(4))
	for _, size := range []int64{5, 100, 1000000, 1100000} {
		pick := func() int64 { return random.Int63n(2*size+1) - size }
		for range 10000 {
			checkBlend(t, pick(), pick(), pick(), pick(), pick())
		}
	}
}

func TestPromise2BlendTellsItsValue(t *testing.T) {
	for _, c := range [][6]int64{
		{0, 10, 4, 20, 1, 13}, {0, 10, 4, 20, 0, 10}, {0, 10, 4, 20, 4, 20}, {0, 10, 4, 20, -1, 10}, {0, 10, 4, 20, 9, 20},
		{0, 10, 4, 20, math.MinInt64, 10}, {0, 10, 4, 20, math.MaxInt64, 20}, {0, 10, 4, 20, 1000001, 20},
		{4, 10, 4, 20, 9, 10}, {5, 10, 4, 20, 9, 10}, {4, 10, 4, 20, math.MaxInt64, 10},
		{0, 0, 4, -6, 1, -2}, {0, 10, 2, 9, 1, 9}, {0, -10, 2, -9, 1, -9}, {-2, 7, 2, 7, 0, 7},
		{-1000000, -1000000, 1000000, 1000000, 0, 0}, {-1000000, -1000000, 1000000, 1000000, 999999, 999999},
		{-1000000, 1000000, 1000000, -1000000, 999999, -999999},
		{0, 10, 1000001, 20, 5, 0}, {0, 10, 1000000, 20, 5, 10}, {-1000001, 10, 4, 20, 1, 0}, {0, 1000001, 4, 20, 1, 0}, {0, -1000001, 4, 20, 1, 0},
		{0, 10, 4, 1000001, 1, 0}, {0, 10, 4, -1000001, 1, 0}, {0, 10, -1000001, 20, 1, 0}, {1000001, 10, 4, 20, 1, 0},
		{0, 10, 4, 1000001, -1, 0}, {math.MinInt64, 10, 4, 20, 1, 0}, {0, math.MinInt64, 4, math.MaxInt64, 1, 0},
	} {
		name := fmt.Sprintf("Blend(%d, %d, %d, %d, %d)", c[0], c[1], c[2], c[3], c[4])
		same(t, name, impl.Blend(c[0], c[1], c[2], c[3], c[4]), c[5])
	}
}

// A value of Blend lies between those of both points, and goes only one way along the line.
func TestPromise2BlendGoesOneWay(t *testing.T) {
	for _, c := range [][4]int64{{-3, 7, 40, 99}, {0, 500, 90, -20}, {-50, 3, 50, 4}} {
		low, high := min(c[1], c[3]), max(c[1], c[3])
		last := c[1]
		for x := c[0] - 3; x <= c[2]+3; x++ {
			y := impl.Blend(c[0], c[1], c[2], c[3], x)
			if y < low || high < y || (y-last)*(c[3]-c[1]) < 0 {
				t.Errorf("Blend of %v at %d: got %d behind %d", c, x, y, last)
			}
			last = y
		}
	}
}
