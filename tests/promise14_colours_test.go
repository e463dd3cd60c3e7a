package tests

import (
	"fmt"
	"math"
	"math/big"
	"math/rand"
	"slices"
	"testing"

	"loop.example/g01061/impl"
)

// overIn is the colour of a coat over a colour.
func overIn(x impl.Coat, under []int64) []int64 {
	over := make([]int64, 3)
	for k, n := range under {
		thousandths := n*(1000-x.Cover) + x.Colour[k]*x.Cover
		over[k] = nearestOf(big.NewInt(thousandths), big.NewInt(1000)).Int64()
	}
	return over
}

func checkAfter(t *testing.T, list []impl.Coat, order, ground, want []int64, code int64) {
	t.Helper()
	after, got := impl.ColourAfter(list, order, ground)
	same(t, fmt.Sprintf("ColourAfter of %s, %v over %v", shown(list), order, ground), []any{fmt.Sprint(after), got}, []any{fmt.Sprint(want), code})
}

// checkOver checks one coat over a ground, and that its colour lies between both.
func checkOver(t *testing.T, x impl.Coat, ground, want []int64) {
	t.Helper()
	checkAfter(t, []impl.Coat{x}, []int64{0}, ground, want, impl.OK)
	for k, n := range want {
		low, high := min(ground[k], x.Colour[k]), max(ground[k], x.Colour[k])
		same(t, fmt.Sprintf("%v over %v lies between both", x, ground), low <= n && n <= high, true)
	}
}

func TestPromise14ColoursLieBetweenBoth(t *testing.T) {
	random := rand.New(rand.NewSource(201))
	halves := 0
	for range 30000 {
		x, ground := coat("a", 3, randomCover(random), randomColour(random)...), randomColour(random)
		checkOver(t, x, ground, overIn(x, ground))
		for k, n := range ground {
			if (n*(1000-x.Cover)+x.Colour[k]*x.Cover)%1000 == 500 {
				halves++
			}
		}
	}
	if halves < 1000 {
		t.Errorf("too few quotients at a half: %d", halves)
	}
	for cover := range int64(1001) {
		for _, ends := range [][6]int64{{0, 255, 1, 255, 0, 0}, {254, 255, 100, 255, 254, 101}} {
			x := coat("a", 3, cover, ends[:3]...)
			checkOver(t, x, ends[3:], overIn(x, ends[3:]))
		}
	}
}

func TestPromise14ColourOfOneCoat(t *testing.T) {
	for _, c := range []struct {
		cover              int64
		coat, ground, want []int64
	}{
		// The example of the document.
		{500, []int64{100, 0, 0}, []int64{0, 0, 50}, []int64{50, 0, 25}},
		// No cover, and the greatest one.
		{0, []int64{255, 0, 255}, []int64{0, 255, 7}, []int64{0, 255, 7}}, {1000, []int64{255, 0, 7}, []int64{0, 255, 255}, []int64{255, 0, 7}}, {1, []int64{255, 0, 255}, []int64{0, 255, 7}, []int64{0, 255, 7}}, {999, []int64{255, 0, 255}, []int64{0, 255, 7}, []int64{255, 0, 255}}, {2, []int64{255, 0, 255}, []int64{0, 255, 7}, []int64{1, 254, 7}}, {998, []int64{255, 0, 255}, []int64{0, 255, 7}, []int64{254, 1, 255}},
		// Just at a half, just below it and just above it.
		{500, []int64{1, 0, 255}, []int64{0, 1, 254}, []int64{1, 1, 255}}, {499, []int64{1, 0, 255}, []int64{0, 1, 254}, []int64{0, 1, 254}}, {501, []int64{1, 0, 255}, []int64{0, 1, 254}, []int64{1, 0, 255}}, {250, []int64{2, 0, 6}, []int64{0, 2, 0}, []int64{1, 2, 2}}, {750, []int64{2, 0, 6}, []int64{0, 2, 0}, []int64{2, 1, 5}}, {100, []int64{5, 0, 255}, []int64{0, 5, 250}, []int64{1, 5, 251}}, {20, []int64{25, 0, 75}, []int64{0, 25, 0}, []int64{1, 25, 2}}, {4, []int64{125, 0, 0}, []int64{0, 125, 250}, []int64{1, 125, 249}}, {12, []int64{125, 0, 0}, []int64{0, 125, 250}, []int64{2, 124, 247}},
		{500, []int64{255, 255, 0}, []int64{0, 255, 255}, []int64{128, 255, 128}}, {500, []int64{7, 7, 7}, []int64{7, 7, 7}, []int64{7, 7, 7}}, {333, []int64{7, 255, 0}, []int64{7, 255, 0}, []int64{7, 255, 0}},
	} {
		checkOver(t, coat("a", 3, c.cover, c.coat...), c.ground, c.want)
		same(t, "the colour by definition", overIn(coat("a", 3, c.cover, c.coat...), c.ground), c.want)
	}
}

func TestPromise14OrderOfCoatsCounts(t *testing.T) {
	list := amberAndRed()
	ground := []int64{0, 0, 40}
	for _, c := range []struct{ order, want []int64 }{
		{nil, []int64{0, 0, 40}}, {[]int64{}, []int64{0, 0, 40}}, {[]int64{0}, []int64{25, 20, 30}}, {[]int64{1}, []int64{100, 0, 20}}, {[]int64{1, 0}, []int64{100, 20, 15}}, {[]int64{0, 1}, []int64{113, 10, 15}}, {[]int64{0, 0}, []int64{44, 35, 23}}, {[]int64{1, 1}, []int64{150, 0, 10}}, {[]int64{0, 1, 1}, []int64{157, 5, 8}}, {[]int64{1, 0, 1}, []int64{150, 10, 8}}, {[]int64{1, 1, 0}, []int64{138, 20, 8}},
	} {
		checkAfter(t, list, c.order, ground, c.want, impl.OK)
	}
	checkAfter(t, nil, nil, []int64{255, 0, 255}, []int64{255, 0, 255}, impl.OK)
	// Each coat is rounded: halves are as great behind each of them.
	thin := coatsWith(500, 0, 0, 0, 500, 3, 0, 255)
	for coats := 1; coats <= 10; coats++ {
		checkAfter(t, thin, slices.Repeat([]int64{0}, coats), []int64{1, 1, 1}, []int64{1, 1, 1}, impl.OK)
	}
	checkAfter(t, thin, []int64{0, 0}, []int64{5, 4, 3}, []int64{2, 1, 1}, impl.OK)
	checkAfter(t, thin, slices.Repeat([]int64{1}, 10), []int64{0, 255, 0}, []int64{3, 1, 255}, impl.OK)
	checkAfter(t, thin, []int64{1, 0, 1, 0, 1, 0, 1, 0, 1, 0}, []int64{0, 0, 0}, []int64{1, 0, 85}, impl.OK)
	checkAfter(t, thin, []int64{0, 1, 0, 1, 0, 1, 0, 1, 0, 1}, []int64{0, 0, 0}, []int64{2, 0, 170}, impl.OK)
}

func TestPromise14ColoursOfManyCoats(t *testing.T) {
	random := rand.New(rand.NewSource(202))
	differing := 0
	for range 4000 {
		list := randomCoats(random, random.Intn(11))
		order, ground := randomOrder(random, len(list)), randomColour(random)
		after := func() []int64 {
			colour := ground
			for _, k := range order {
				colour = overIn(list[k], colour)
			}
			return colour
		}
		first := after()
		checkAfter(t, list, order, ground, first, impl.OK)
		slices.Reverse(order)
		checkAfter(t, list, order, ground, after(), impl.OK)
		if !slices.Equal(first, after()) {
			differing++
		}
	}
	if differing < 1000 {
		t.Errorf("too few orders that count: %d", differing)
	}
}

func TestPromise14GroundsThatAreNoColours(t *testing.T) {
	list, good := amberAndRed(), []int64{0, 0, 40}
	for _, wrong := range wrongColours() {
		checkAfter(t, list, []int64{1, 0}, wrong, nil, impl.ErrInvalid)
		checkAfter(t, nil, nil, wrong, nil, impl.ErrInvalid)
		checkGap(t, wrong, good, 0, impl.ErrInvalid)
		checkGap(t, good, wrong, 0, impl.ErrInvalid)
		checkGap(t, wrong, wrong, 0, impl.ErrInvalid)
		for _, gap := range []int64{math.MinInt64, -1, 0, 60, 765, 766, math.MaxInt64} {
			checkFewest(t, list[1], wrong, good, gap, 0, impl.ErrInvalid)
			checkFewest(t, list[1], good, wrong, gap, 0, impl.ErrInvalid)
			checkFewest(t, list[1], wrong, wrong, gap, 0, impl.ErrInvalid)
		}
		for _, most := range []int64{-1, 0, 2, 10, 11} {
			for _, budget := range []int64{0, 1, 7, 20000, 20001} {
				checkBest(t, list, wrong, good, most, budget, nil, 0, impl.ErrInvalid)
				checkBest(t, list, good, wrong, most, budget, nil, 0, impl.ErrInvalid)
				checkBest(t, nil, wrong, wrong, most, budget, nil, 0, impl.ErrInvalid)
			}
		}
	}
}

func checkGap(t *testing.T, a, b []int64, want, code int64) {
	t.Helper()
	gap, got := impl.ColourGap(a, b)
	same(t, fmt.Sprintf("ColourGap of %v, %v", a, b), []int64{gap, got}, []int64{want, code})
}

// gapIn is the gap of two colours.
func gapIn(a, b []int64) int64 {
	return absolute(a[0]-b[0]) + absolute(a[1]-b[1]) + absolute(a[2]-b[2])
}

func TestPromise14ColourGap(t *testing.T) {
	for _, c := range []struct {
		a, b []int64
		want int64
	}{
		{[]int64{0, 0, 0}, []int64{0, 0, 0}, 0}, {[]int64{255, 255, 255}, []int64{0, 0, 0}, 765}, {[]int64{255, 0, 255}, []int64{0, 255, 0}, 765}, {[]int64{100, 20, 15}, []int64{0, 0, 40}, 145}, {[]int64{1, 2, 3}, []int64{3, 2, 1}, 4}, {[]int64{1, 2, 3}, []int64{3, 1, 2}, 4}, {[]int64{7, 8, 9}, []int64{7, 8, 9}, 0}, {[]int64{7, 8, 9}, []int64{8, 8, 9}, 1}, {[]int64{7, 8, 9}, []int64{7, 7, 9}, 1}, {[]int64{7, 8, 9}, []int64{7, 8, 10}, 1}, {[]int64{255, 255, 255}, []int64{255, 255, 255}, 0},
	} {
		checkGap(t, c.a, c.b, c.want, impl.OK)
		checkGap(t, c.b, c.a, c.want, impl.OK)
	}
	random := rand.New(rand.NewSource(203))
	for range 3000 {
		a, b := randomColour(random), randomColour(random)
		checkGap(t, a, b, gapIn(a, b), impl.OK)
	}
}

func checkMix(t *testing.T, list []impl.Coat, parts, want []int64, code int64) {
	t.Helper()
	mixed, got := impl.MixColours(list, parts)
	same(t, fmt.Sprintf("MixColours of %s, %v", shown(list), parts), []any{fmt.Sprint(mixed), got}, []any{fmt.Sprint(want), code})
}

func TestPromise14MixColours(t *testing.T) {
	random := rand.New(rand.NewSource(204))
	for range 4000 {
		list := randomCoats(random, 1+random.Intn(10))
		parts, sum := make([]int64, len(list)), int64(0)
		greatest := []int64{1, 3, impl.MaxCover}[random.Intn(3)]
		for k := range parts {
			parts[k] = random.Int63n(greatest + 1)
			sum += parts[k]
		}
		if sum == 0 {
			checkMix(t, list, parts, nil, impl.ErrOrder)
			continue
		}
		want := make([]int64, 3)
		for k := range want {
			product := int64(0)
			for coat, part := range parts {
				product += part * list[coat].Colour[k]
			}
			want[k] = nearestOf(big.NewInt(product), big.NewInt(sum)).Int64()
		}
		checkMix(t, list, parts, want, impl.OK)
	}
}

func TestPromise14MixColoursTellsItsValue(t *testing.T) {
	list := amberAndRed()
	for _, c := range []struct{ parts, want []int64 }{
		{[]int64{1, 3}, []int64{175, 20, 0}}, {[]int64{1, 0}, []int64{100, 80, 0}}, {[]int64{0, 1}, []int64{200, 0, 0}}, {[]int64{1000, 0}, []int64{100, 80, 0}}, {[]int64{1000, 1000}, []int64{150, 40, 0}}, {[]int64{999, 1000}, []int64{150, 40, 0}}, {[]int64{1, 2}, []int64{167, 27, 0}}, {[]int64{2, 1}, []int64{133, 53, 0}}, {[]int64{1, 1000}, []int64{200, 0, 0}},
		// 137.5 and 50: a half is rounded up.
		{[]int64{5, 3}, []int64{138, 50, 0}},
	} {
		checkMix(t, list, c.parts, c.want, impl.OK)
	}
	// Just at a half, just below it and just above it; neither days nor covers matter.
	small := []impl.Coat{coat("a", 0, 1000, 0, 1, 254), coat("b", 365, 0, 1, 0, 255)}
	checkMix(t, small, []int64{1, 1}, []int64{1, 1, 255}, impl.OK)
	checkMix(t, small, []int64{500, 499}, []int64{0, 1, 254}, impl.OK)
	checkMix(t, small, []int64{499, 500}, []int64{1, 0, 255}, impl.OK)
	full := coatsWith(slices.Repeat([]int64{0, 255, 255, 255}, 10)...)
	checkMix(t, full, slices.Repeat([]int64{1000}, 10), []int64{255, 255, 255}, impl.OK)
	checkMix(t, full, []int64{0, 0, 0, 0, 0, 0, 0, 0, 0, 1}, []int64{255, 255, 255}, impl.OK)
	checkMix(t, full[:1], []int64{1}, []int64{255, 255, 255}, impl.OK)
}

func TestPromise14PartsThatAreNotAsStated(t *testing.T) {
	random := rand.New(rand.NewSource(205))
	for many := range impl.MaxCoats + 1 {
		list := randomCoats(random, many)
		for parts := range impl.MaxCoats + 3 {
			checkMix(t, list, make([]int64, parts), nil, impl.ErrOrder)
			if parts != many {
				checkMix(t, list, slices.Repeat([]int64{1}, parts), nil, impl.ErrOrder)
				checkMix(t, list, slices.Repeat([]int64{1000}, parts), nil, impl.ErrOrder)
			}
		}
		for k := range many {
			for _, wrong := range outside(0, 1000) {
				parts := slices.Repeat([]int64{1000}, many)
				parts[k] = wrong
				checkMix(t, list, parts, nil, impl.ErrOrder)
				checkMix(t, slices.Concat(list, []impl.Coat{{}}), parts, nil, impl.ErrInvalid)
			}
		}
		checkMix(t, list, nil, nil, impl.ErrOrder)
	}
	checkMix(t, amberAndRed(), []int64{-1, 2}, nil, impl.ErrOrder)
	checkMix(t, amberAndRed(), []int64{math.MaxInt64, math.MaxInt64}, nil, impl.ErrOrder)
	checkMix(t, amberAndRed(), []int64{math.MinInt64, math.MinInt64}, nil, impl.ErrOrder)
}
