package tests

import (
	"fmt"
	"math"
	"math/rand"
	"slices"
	"testing"

	"loop.example/g01061/impl"
)

func coat(id string, days, cover int64, colour ...int64) impl.Coat {
	return impl.Coat{Id: id, Days: days, Cover: cover, Colour: colour}
}

// amberAndRed are the coats of the stage test.
func amberAndRed() []impl.Coat {
	return []impl.Coat{coat("amber", 3, 250, 100, 80, 0), coat("red", 5, 500, 200, 0, 0)}
}

// coatsWith returns coats with told covers and colours, in turn: one cover and three numbers each.
func coatsWith(numbers ...int64) []impl.Coat {
	list := []impl.Coat{}
	for k := 0; k < len(numbers); k += 4 {
		list = append(list, coat(fmt.Sprintf("c%05d", k), 3, numbers[k], slices.Clone(numbers[k+1:k+4])...))
	}
	return list
}

// namedCoats returns coats with told Ids.
func namedCoats(ids ...string) []impl.Coat {
	list := make([]impl.Coat, len(ids))
	for k, id := range ids {
		list[k] = coat(id, 3, 250, 100, 80, 0)
	}
	return list
}

// randomColour has numbers up to a greatest one, which is the limit or so small that many are equal.
func randomColour(random *rand.Rand) []int64 {
	greatest := []int64{3, 20, impl.MaxColour}[random.Intn(3)]
	return []int64{random.Int63n(greatest + 1), random.Int63n(greatest + 1), random.Int63n(greatest + 1)}
}

// randomCover is any cover, or one with which quotients often lie just at a half.
func randomCover(random *rand.Rand) int64 {
	return []int64{0, 100, 250, 500, 750, 1000, random.Int63n(1001), random.Int63n(1001)}[random.Intn(8)]
}

func randomCoats(random *rand.Rand, many int) []impl.Coat {
	list := make([]impl.Coat, many)
	for k := range list {
		list[k] = coat(fmt.Sprintf("c%03d", k), random.Int63n(366), randomCover(random), randomColour(random)...)
	}
	return list
}

// randomOrder has any number of indices, which may repeat; none if there are no coats.
func randomOrder(random *rand.Rand, coats int) []int64 {
	order := []int64{}
	for range random.Intn(impl.MaxCoats + 1) {
		if coats > 0 {
			order = append(order, random.Int63n(int64(coats)))
		}
	}
	return order
}

// wrongColours are lists that are no colours, because of their length or of one of their numbers.
func wrongColours() [][]int64 {
	list := [][]int64{nil, {}, {0}, {0, 0}, {100, 80}, {0, 0, 0, 0}, {1, 2, 3, 4}, make([]int64, 100), {256, 256, 256}, {-1, -1, -1}, {0, 0, 0, -1}}
	for k := range 3 {
		for _, n := range outside(0, 255) {
			for _, other := range []int64{0, 255} {
				colour := []int64{other, other, other}
				colour[k] = n
				list = append(list, colour)
			}
		}
	}
	return list
}

// someLists are lists of numbers that are orders or parts of some coats, or that are not.
func someLists(coats int) [][]int64 {
	return [][]int64{nil, {0}, {1}, {0, 0}, {1, 1}, {-1}, {1001}, {int64(coats)}, {math.MinInt64, math.MaxInt64}, slices.Repeat([]int64{0}, coats), slices.Repeat([]int64{1}, coats), slices.Repeat([]int64{0}, 11)}
}

// checkCoatsFail checks all functions with a list of coats for one that is wrong.
func checkCoatsFail(t *testing.T, list []impl.Coat, ground, goal []int64, most, budget int64) {
	t.Helper()
	name := fmt.Sprintf(" of %d coats %s, %v, %v, %d, %d", len(list), shown(list), ground, goal, most, budget)
	best, gap, code := impl.BestCoats(list, ground, goal, most, budget)
	same(t, "BestCoats"+name, []int64{int64(len(best)), gap, code}, []int64{0, 0, impl.ErrInvalid})
	for _, some := range someLists(len(list)) {
		days, code := impl.DryingDays(list, some)
		same(t, fmt.Sprintf("DryingDays of %v%s", some, name), []int64{days, code}, []int64{0, impl.ErrInvalid})
		after, code := impl.ColourAfter(list, some, ground)
		same(t, fmt.Sprintf("ColourAfter of %v%s", some, name), []int64{int64(len(after)), code}, []int64{0, impl.ErrInvalid})
		mixed, code := impl.MixColours(list, some)
		same(t, fmt.Sprintf("MixColours of %v%s", some, name), []int64{int64(len(mixed)), code}, []int64{0, impl.ErrInvalid})
	}
}

// checkInvalidCoats checks that a list is as nothing, whatever else is wrong.
func checkInvalidCoats(t *testing.T, list []impl.Coat) {
	t.Helper()
	same(t, "ValidCoats of "+shown(list), impl.ValidCoats(list), false)
	strongest, code := impl.StrongestCoat(list)
	same(t, "StrongestCoat of "+shown(list), []int64{strongest, code}, []int64{0, impl.ErrInvalid})
	for _, colour := range [][]int64{nil, {0, 0, 40}, {0, 0, 256}} {
		for _, n := range []int64{math.MinInt64, -1, 0, 1, 2, 10, 11, 20000, 20001, math.MaxInt64} {
			checkCoatsFail(t, list, colour, []int64{150, 0, 10}, n, 20000)
			checkCoatsFail(t, list, []int64{0, 0, 40}, colour, 2, n)
		}
	}
}

// checkInvalidCoat checks that a coat is as nothing for each function with one.
func checkInvalidCoat(t *testing.T, x impl.Coat) {
	t.Helper()
	same(t, "CoatText of "+shown(x), impl.CoatText(x), "")
	for _, colour := range [][]int64{nil, {0, 0, 40}, {0, 0, 256}, {0, 0, 40, 0}} {
		for _, gap := range []int64{math.MinInt64, -1, 0, 765, 766, math.MaxInt64} {
			for _, other := range [][]int64{colour, {0, 0, 40}} {
				coats, code := impl.FewestCoats(x, colour, other, gap)
				same(t, fmt.Sprintf("FewestCoats of %s, %v, %v, %d", shown(x), colour, other, gap), []int64{coats, code}, []int64{0, impl.ErrInvalid})
			}
		}
	}
	checkInvalidCoats(t, []impl.Coat{x})
	checkInvalidCoats(t, []impl.Coat{x, coat("zzzzzzzzzz", 3, 250, 100, 80, 0)})
	checkInvalidCoats(t, []impl.Coat{coat("a", 3, 250, 100, 80, 0), x})
}

func TestPromise14CoatsAtTheirLimits(t *testing.T) {
	for _, x := range []impl.Coat{
		coat("a", 0, 0, 0, 0, 0), coat("z9", 365, 1000, 255, 255, 255), coat("abcdefghij", 0, 1000, 0, 255, 0), coat("a", 365, 0, 255, 0, 255), coat("a", 1, 999, 254, 1, 0), coat("a0123456789"[:10], 364, 1, 0, 0, 255),
	} {
		same(t, "ValidCoats of "+shown(x), impl.ValidCoats([]impl.Coat{x}), true)
		strongest, code := impl.StrongestCoat([]impl.Coat{x})
		same(t, "StrongestCoat of "+shown(x), []int64{strongest, code}, []int64{0, impl.OK})
		coats, code := impl.FewestCoats(x, []int64{0, 0, 0}, []int64{0, 0, 0}, 0)
		same(t, "FewestCoats of "+shown(x), []int64{coats, code}, []int64{0, impl.OK})
	}
}

func TestPromise14CoatsThatAreNotValid(t *testing.T) {
	for _, days := range outside(0, 365) {
		checkInvalidCoat(t, coat("m", days, 250, 100, 80, 0))
	}
	for _, cover := range outside(0, 1000) {
		checkInvalidCoat(t, coat("m", 3, cover, 100, 80, 0))
	}
	for _, colour := range wrongColours() {
		checkInvalidCoat(t, coat("m", 3, 250, colour...))
	}
	for _, id := range []string{"", "1", "A", "a b", "a ", " a", "a-b", "abcdefghijk", "\u00e9", "a\x00", "a,"} {
		checkInvalidCoat(t, coat(id, 3, 250, 100, 80, 0))
	}
	checkInvalidCoat(t, impl.Coat{})
}

func TestPromise14ValidCoats(t *testing.T) {
	random := rand.New(rand.NewSource(191))
	for many := range impl.MaxCoats + 1 {
		same(t, fmt.Sprintf("ValidCoats of %d", many), impl.ValidCoats(randomCoats(random, many)), true)
	}
	same(t, "ValidCoats of nil", impl.ValidCoats(nil), true)
	checkInvalidCoats(t, randomCoats(random, impl.MaxCoats+1))
	checkInvalidCoats(t, randomCoats(random, 500))
	same(t, "ValidCoats in bytewise order", impl.ValidCoats(namedCoats("a", "a0", "a10", "a2", "aa", "b", "z")), true)
	for _, ids := range [][]string{{"a", "a"}, {"b", "a"}, {"a2", "a10"}, {"aa", "a"}, {"a", "b", "b"}, {"a", "c", "b"}, {"b", "c", "a"}, {"a", "b", "a", "b"}, {"a", "A"}, {"", "a"}, {"a", ""}} {
		checkInvalidCoats(t, namedCoats(ids...))
	}
}

func checkDrying(t *testing.T, list []impl.Coat, order []int64, want, code int64) {
	t.Helper()
	days, got := impl.DryingDays(list, order)
	same(t, fmt.Sprintf("DryingDays of %s, %v", shown(list), order), []int64{days, got}, []int64{want, code})
}

// checkWrongOrders checks that an order that is not as stated is seen, whatever the coats are.
func checkWrongOrders(t *testing.T, list []impl.Coat) {
	t.Helper()
	many := int64(len(list))
	wrong := [][]int64{slices.Repeat([]int64{0}, 11), slices.Repeat([]int64{many}, 10), slices.Repeat([]int64{max(0, many-1)}, 100)}
	for _, none := range slices.Concat([]int64{-2, -1, many, many + 1, 10, 11}, beyond32) {
		wrong = append(wrong, []int64{none})
		if many > 0 {
			wrong = append(wrong, []int64{0, none}, []int64{none, many - 1}, slices.Concat(slices.Repeat([]int64{0}, 9), []int64{none}))
		}
	}
	for _, order := range wrong {
		if len(order) <= 10 && !slices.ContainsFunc(order, func(k int64) bool { return k < 0 || k >= many }) {
			continue
		}
		checkDrying(t, list, order, 0, impl.ErrOrder)
		checkAfter(t, list, order, []int64{0, 0, 40}, nil, impl.ErrOrder)
		for _, colour := range wrongColours()[:12] {
			checkAfter(t, list, order, colour, nil, impl.ErrInvalid)
		}
	}
}

func TestPromise14OrdersThatAreNone(t *testing.T) {
	random := rand.New(rand.NewSource(192))
	for many := range impl.MaxCoats + 1 {
		checkWrongOrders(t, randomCoats(random, many))
	}
	checkWrongOrders(t, nil)
	checkWrongOrders(t, amberAndRed())
}

func TestPromise14DryingDays(t *testing.T) {
	list := []impl.Coat{coat("a", 3, 250, 100, 80, 0), coat("b", 0, 500, 200, 0, 0), coat("c", 365, 0, 0, 0, 0)}
	for _, c := range []struct {
		order []int64
		want  int64
	}{
		{nil, 0}, {[]int64{}, 0}, {[]int64{0}, 3}, {[]int64{1}, 0}, {[]int64{2}, 365}, {[]int64{0, 1, 2}, 368}, {[]int64{2, 1, 0}, 368}, {[]int64{0, 0}, 6}, {[]int64{2, 0, 2}, 733}, {slices.Repeat([]int64{2}, 10), 3650}, {slices.Repeat([]int64{0}, 10), 30}, {slices.Repeat([]int64{1}, 10), 0}, {slices.Repeat([]int64{0}, 9), 27},
	} {
		checkDrying(t, list, c.order, c.want, impl.OK)
	}
	checkDrying(t, nil, nil, 0, impl.OK)
	checkDrying(t, amberAndRed(), []int64{1, 0}, 8, impl.OK)
	random := rand.New(rand.NewSource(193))
	for range 3000 {
		list := randomCoats(random, random.Intn(11))
		order := randomOrder(random, len(list))
		want := int64(0)
		for _, k := range order {
			want += list[k].Days
		}
		checkDrying(t, list, order, want, impl.OK)
	}
}

func checkStrongest(t *testing.T, want int64, covers ...int64) {
	t.Helper()
	numbers := []int64{}
	for _, cover := range covers {
		numbers = append(numbers, cover, 100, 80, 0)
	}
	strongest, code := impl.StrongestCoat(coatsWith(numbers...))
	same(t, fmt.Sprintf("StrongestCoat of covers %v", covers), []int64{strongest, code}, []int64{want, impl.OK})
}

func TestPromise14StrongestCoat(t *testing.T) {
	checkStrongest(t, 0, 0)
	checkStrongest(t, 0, 1000)
	checkStrongest(t, 1, 250, 500)
	checkStrongest(t, 0, 500, 250)
	checkStrongest(t, 0, 500, 500)
	checkStrongest(t, 1, 499, 500, 500)
	checkStrongest(t, 1, 0, 1, 0, 1)
	checkStrongest(t, 0, 0, 0, 0)
	checkStrongest(t, 9, 0, 1, 2, 3, 4, 5, 6, 7, 8, 9)
	checkStrongest(t, 2, 999, 0, 1000, 999, 1000, 1, 1000, 0, 1000, 1000)
	for _, list := range [][]impl.Coat{nil, {}} {
		strongest, code := impl.StrongestCoat(list)
		same(t, "StrongestCoat of none", []int64{strongest, code}, []int64{0, impl.ErrNotFound})
	}
	// Neither the days nor the colour make a coat strong.
	strongest, code := impl.StrongestCoat([]impl.Coat{coat("a", 365, 1, 255, 255, 255), coat("b", 0, 2, 0, 0, 0)})
	same(t, "StrongestCoat of a colourless one", []int64{strongest, code}, []int64{1, impl.OK})
}

func TestPromise14CoatTexts(t *testing.T) {
	random := rand.New(rand.NewSource(194))
	list := []impl.Coat{coat("a", 0, 0, 0, 0, 0), coat("abcdefghij", 365, 1000, 255, 255, 255), coat("z9", 10, 20, 1, 2, 3)}
	for range 1000 {
		x := randomCoats(random, 1)[0]
		x.Id = fmt.Sprintf("%c%x", 'a'+random.Intn(26), random.Int31())
		list = append(list, x)
	}
	for _, x := range list {
		s := fmt.Sprintf("%s %d,%d %d,%d,%d", x.Id, x.Days, x.Cover, x.Colour[0], x.Colour[1], x.Colour[2])
		same(t, "CoatText", impl.CoatText(x), s)
		got, ok := impl.ReadCoat(s)
		same(t, "ReadCoat of "+s, []any{got, ok}, []any{x, true})
	}
	same(t, "CoatText of the stage test", impl.CoatText(amberAndRed()[0]), "amber 3,250 100,80,0")
}

// wrongCoatTexts are texts of no coat, many of them nearly canonical.
func wrongCoatTexts() []string {
	list := []string{
		"", " ", "  ", "red", "red ", "red 5,500", "red 5,500 ", "red  ", "red -", "red - -", "red 5,500 -", "red - 200,0,0", " 5,500 200,0,0", "5,500 200,0,0", "red 200,0,0", "red  5,500 200,0,0", "red 5,500  200,0,0", " red 5,500 200,0,0", "red 5,500 200,0,0 ", "red 5,500 200,0,0\n", "red\t5,500 200,0,0", "red 5,500\t200,0,0", "red 5,500,200,0,0", "red,5,500 200,0,0", "red 5 500 200,0,0", "red 5,500 200 0 0", "red 5, 500 200,0,0", "red 5,500 200, 0,0",
		"red 5 200,0,0", "red 5,500,1 200,0,0", "red 5,500, 200,0,0", "red ,500 200,0,0", "red 5, 200,0,0", "red 5,,500 200,0,0", "red 5,500 200", "red 5,500 200,0", "red 5,500 200,0,0,0", "red 5,500 200,0,", "red 5,500 ,0,0", "red 5,500 200,,0", "red 5,500 200,0,0,", "red 5,500 200,0,0 1", "red 5,500 200,0,0 1,1", "red 5,500 red 200,0,0", "red red 5,500 200,0,0", "red 200,0,0 5,500",
		"RED 5,500 200,0,0", "1red 5,500 200,0,0", "abcdefghijk 5,500 200,0,0", "r-d 5,500 200,0,0", "r\u00e9d 5,500 200,0,0", "red\u00a05,500 200,0,0", "red 05,500 200,0,0", "red +5,500 200,0,0", "red -0,500 200,0,0", "red 5,0500 200,0,0", "red 5,5e2 200,0,0", "red 5,500 0200,0,0", "red 5,500 200,00,0", "red 5,500 200,-0,0", "red 5,500 200,+0,0", "red 5,500 200,0,\u0663", "red 5,500 200,0,0.0", "red 5,500 200,0,-", "red x,500 200,0,0", "red 5;500 200;0;0", "red 5,500 200,0,0\x00", "red 5@500 200,0,0", "red 5,500/200,0,0",
		"red 18446744073709551621,500 200,0,0", "red 5,500 200,0,18446744073709551616", "red 5,18446744073709552116 200,0,0",
	}
	for field, most := range []int64{365, 1000, 255, 255, 255} {
		for _, wrong := range outside(0, most) {
			parts := []any{5, 500, 200, 0, 0}
			parts[field] = wrong
			list = append(list, fmt.Sprintf("red %d,%d %d,%d,%d", parts...))
		}
	}
	return list
}

func TestPromise14ReadCoatRefuses(t *testing.T) {
	for _, s := range slices.Concat(texts, wrongCoatTexts()) {
		x, ok := impl.ReadCoat(s)
		same(t, fmt.Sprintf("ReadCoat(%s)", shown(s)), []any{x, ok}, []any{impl.Coat{}, false})
	}
}
