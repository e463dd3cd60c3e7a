package tests

import (
	"fmt"
	"math"
	"math/big"
	"math/rand"
	"testing"

	"loop.example/g01061/impl"
)

// thickToDryOf returns the results of ThickToDry by trying each thick, the greatest one first.
func thickToDryOf(moisture, humidity, goal, days int64) []int64 {
	for thick := int64(1000); thick >= 10; thick-- {
		if moisturesOf(stack("s", moisture, thick, 0), humidity, days)[days] <= goal {
			return []int64{thick, impl.OK}
		}
	}
	return []int64{0, impl.ErrNotFound}
}

func checkThickToDry(t *testing.T, moisture, humidity, goal, days int64) {
	t.Helper()
	thick, code := impl.ThickToDry(moisture, humidity, goal, days)
	same(t, fmt.Sprintf("ThickToDry(%d, %d, %d, %d)", moisture, humidity, goal, days), []int64{thick, code}, thickToDryOf(moisture, humidity, goal, days))
}

func TestPromise5ThickToDry(t *testing.T) {
	random := rand.New(rand.NewSource(25))
	for range 1500 {
		moisture, humidity, goal, days := randomThousandths(random), randomThousandths(random), randomThousandths(random), random.Int63n(40)
		if even := evenOf(humidity); random.Intn(2) == 0 {
			goal = min(moisture, even) + random.Int63n(1+max(moisture-even, even-moisture))
		}
		checkThickToDry(t, moisture, humidity, goal, days)
	}
	for _, days := range []int64{500, impl.MaxDry - 1, impl.MaxDry} {
		for _, goal := range []int64{59, 60, 61, 70, 85} {
			checkThickToDry(t, 200, 300, goal, days)
		}
	}
}

func TestPromise5ThickToDryTellsItsValue(t *testing.T) {
	for _, c := range [][6]int64{
		{200, 300, 130, 1, 20, 0}, {200, 300, 129, 1, 19, 0}, {200, 300, 100, 0, 0, 3}, {200, 300, 199, 0, 0, 3}, {200, 300, 200, 0, 1000, 0}, {200, 300, 1000, 0, 1000, 0}, {0, 0, 0, 0, 1000, 0},
		{200, 300, 107, 1, 10, 0}, {200, 300, 106, 1, 0, 3}, {1000, 0, 333, 1, 10, 0}, {1000, 0, 332, 1, 0, 3}, {200, 300, 59, 4000, 0, 3}, {200, 300, 60, 4000, 20, 0}, {200, 300, 85, 4000, 1000, 0}, {200, 300, 84, 4000, 980, 0},
		{60, 300, 60, 4000, 1000, 0}, {60, 300, 59, 4000, 0, 3}, {0, 300, 59, 1, 1000, 0}, {0, 300, 35, 4000, 1000, 0}, {0, 300, 34, 4000, 0, 3}, {0, 300, 1, 1, 1000, 0}, {0, 300, 0, 1, 0, 3}, {0, 1000, 5, 1, 1000, 0}, {0, 1000, 4, 1, 0, 3},
		{0, 0, 0, 4000, 1000, 0}, {1000, 1000, 1000, 4000, 1000, 0}, {300, 1000, 300, 0, 1000, 0}, {100, 1000, 100, 1, 0, 3}, {100, 1000, 100, 0, 1000, 0},
	} {
		thick, code := impl.ThickToDry(c[0], c[1], c[2], c[3])
		same(t, fmt.Sprintf("ThickToDry %v", c[:4]), []int64{thick, code}, c[4:])
	}
}

func TestPromise5ThickToDryRefuses(t *testing.T) {
	check := func(moisture, humidity, goal, days int64) {
		t.Helper()
		thick, code := impl.ThickToDry(moisture, humidity, goal, days)
		same(t, fmt.Sprintf("ThickToDry(%d, %d, %d, %d)", moisture, humidity, goal, days), []int64{thick, code}, []int64{0, impl.ErrRange})
	}
	for _, wrong := range beyondThousand {
		check(wrong, 300, 100, 0)
		check(200, wrong, 100, 0)
		check(200, 300, wrong, 1)
		check(wrong, wrong, wrong, wrong)
	}
	for _, wrong := range beyondDry {
		check(200, 300, 130, wrong)
		check(200, 300, 200, wrong)
	}
}

func TestPromise5SafeHumidity(t *testing.T) {
	random := rand.New(rand.NewSource(26))
	for range 2000 {
		x, most := randomStack(random), random.Int63n(60)
		if random.Intn(3) == 0 {
			most = randomThousandths(random)
		}
		want := []int64{0, impl.ErrNotFound}
		for humidity := int64(1000); humidity >= 0; humidity-- {
			if moistures := moisturesOf(x, humidity, 1); moistures[0]-moistures[1] <= most {
				want = []int64{humidity, impl.OK}
			}
		}
		humidity, code := impl.SafeHumidity(x, most)
		same(t, fmt.Sprintf("SafeHumidity(%s, %d)", shown(x), most), []int64{humidity, code}, want)
	}
}

func TestPromise5SafeHumidityTellsItsValue(t *testing.T) {
	for _, c := range [][5]int64{
		{200, 20, 100, 0, 0}, {200, 20, 99, 8, 0}, {200, 20, 70, 298, 0}, {200, 20, 69, 309, 0}, {280, 10, 0, 1000, 0}, {281, 10, 0, 0, 3}, {281, 10, 1, 998, 0}, {1000, 10, 480, 1000, 0}, {1000, 10, 479, 0, 3}, {1000, 10, 666, 3, 0},
		{1000, 10, 667, 0, 0}, {1000, 10, 1000, 0, 0}, {0, 10, 0, 0, 0}, {0, 1000, 0, 0, 0}, {1, 10, 0, 3, 0}, {25, 1000, 0, 0, 0}, {26, 1000, 0, 3, 0}, {1000, 1000, 14, 968, 0}, {1000, 1000, 13, 0, 3},
	} {
		humidity, code := impl.SafeHumidity(stack("s", c[0], c[1], 0), c[2])
		same(t, fmt.Sprintf("SafeHumidity %v", c[:3]), []int64{humidity, code}, c[3:])
	}
}

func TestPromise5ShrunkTo(t *testing.T) {
	random := rand.New(rand.NewSource(27))
	for range 20000 {
		width, from, to, share := 1+random.Int63n(100000), random.Int63n(400), random.Int63n(400), randomThousandths(random)
		product := big.NewInt(width * (min(from, 280) - min(to, 280)))
		want := width - nearestOf(product.Mul(product, big.NewInt(share)), big.NewInt(280000)).Int64()
		got, code := impl.ShrunkTo(width, from, to, share)
		same(t, fmt.Sprintf("ShrunkTo(%d, %d, %d, %d)", width, from, to, share), []int64{got, code}, []int64{want, impl.OK})
	}
}

func TestPromise5ShrunkToTellsItsValue(t *testing.T) {
	for _, c := range [][6]int64{
		{1000, 280, 80, 80, 943, 0}, {1000, 80, 280, 80, 1057, 0}, {1000, 1000, 80, 80, 943, 0}, {1000, 281, 280, 1000, 1000, 0}, {1000, 280, 1000, 1000, 1000, 0}, {1000, 1000, 1000, 1000, 1000, 0}, {1000, 100, 100, 1000, 1000, 0},
		{1000, 280, 0, 0, 1000, 0}, {1000, 280, 0, 1000, 0, 0}, {1000, 0, 280, 1000, 2000, 0}, {1000, 0, 1000, 1000, 2000, 0}, {1, 280, 0, 1000, 0, 0}, {1, 140, 0, 1000, 0, 0}, {1, 139, 0, 1000, 1, 0}, {1, 0, 140, 1000, 2, 0}, {1, 0, 139, 1000, 1, 0},
		{100000, 280, 0, 1000, 0, 0}, {100000, 0, 1000, 1000, 200000, 0}, {100000, 280, 279, 1, 100000, 0}, {100000, 280, 278, 1, 99999, 0}, {280, 1, 0, 499, 280, 0}, {280, 1, 0, 500, 279, 0}, {280, 0, 1, 500, 281, 0},
		{0, 280, 80, 80, 0, 2}, {-1, 280, 80, 80, 0, 2}, {100001, 280, 80, 80, 0, 2}, {math.MinInt64, 280, 80, 80, 0, 2}, {math.MaxInt64, 280, 80, 80, 0, 2}, {1 << 32, 280, 80, 80, 0, 2},
	} {
		width, code := impl.ShrunkTo(c[0], c[1], c[2], c[3])
		same(t, fmt.Sprintf("ShrunkTo %v", c[:4]), []int64{width, code}, c[4:])
	}
	for _, wrong := range beyondThousand {
		for _, c := range [][4]int64{{1000, wrong, 80, 80}, {1000, 280, wrong, 80}, {1000, 280, 80, wrong}, {1000, wrong, wrong, wrong}, {wrong, wrong, wrong, wrong}} {
			width, code := impl.ShrunkTo(c[0], c[1], c[2], c[3])
			same(t, fmt.Sprintf("ShrunkTo %v", c), []int64{width, code}, []int64{0, impl.ErrRange})
		}
	}
}
